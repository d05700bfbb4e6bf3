/- How long the names are. No program is named here. -/
import Derived.Test.YthmkfojjlcinkaaDoorOpMath
namespace Go.Proofs.YthmkfojjlcinkaaDoor
open Go.RowKit

theorem getD_le (L : List (List UInt8)) (n : Nat) (h : L.all (fun l => decide (l.length ≤ n)) = true) (k : Nat) : (L.getD k []).length ≤ n := by
  rw [List.getD_eq_getElem?_getD]
  cases hk : L[k]? with
  | none => simp
  | some l =>
    have := List.all_eq_true.1 h l (List.mem_of_getElem? hk)
    simpa using this
theorem regsL_le (k : Nat) : (regsL.getD k []).length ≤ 4 := getD_le _ _ (by decide) k
theorem pairsL_le (k : Nat) : (pairsL.getD k []).length ≤ 2 := getD_le _ _ (by decide) k
theorem condsL_le (k : Nat) : (condsL.getD k []).length ≤ 2 := getD_le _ _ (by decide) k
theorem opersL_le (k : Nat) : (opersL.getD k []).length ≤ 6 := getD_le _ _ (by decide) k
theorem turnsL_le (k : Nat) : (turnsL.getD k []).length ≤ 4 := getD_le _ _ (by decide) k
end Go.Proofs.YthmkfojjlcinkaaDoor
