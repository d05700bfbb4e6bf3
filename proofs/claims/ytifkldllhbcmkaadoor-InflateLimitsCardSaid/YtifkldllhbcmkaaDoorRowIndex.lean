/- An array's element by its number, as a value: no program is named here. -/
import Derived.Test.YtifkldllhbcmkaaDoorKit
import Derived.Deep.MidRow
namespace Go.Proofs.YtifkldllhbcmkaaDoor
open Go.RowKit

theorem run_index_row {P : Program} (t e : TypeId) (n : Nat) (cs : Array Value) (k : IntKind) (i : Nat) (v : Value) {d : TypeDesc} (h : P.underlying t = some (.array n e)) (he : P.underlying e = some d) (hd : d.isRow = false)
    (hs : (P.info? e).map (·.size) = some 1) (hi : i < n) (hv : cs[i]? = some v) (w : World) : (Instr.index t (.agg cs) (.int k (i : Int))).run P w = .ok v w := by
  have hagg : (isAgg e).run P w = .ok false w := by
    unfold isAgg
    rw [Sem.run_bind, run_underlying he w]
    cases d <;> simp_all
  cases hq : P.info? e with
  | none => simp [hq] at hs
  | some j =>
    have hz : j.size = 1 := by simpa [hq] using hs
    simp [Instr.index, run_underlying h, asIntOf, hi, part, Sem.run_bind, hagg, sizeOf, typeInfo, hq, hz, hv]
end Go.Proofs.YtifkldllhbcmkaaDoor
