/- Small facts on worlds for regions that draw: no program is named here. -/
import Derived.Test.YtkjibnnoeceaeaaDoorKit
import Derived.Deep.QuietTactic
namespace Go.Proofs.YtkjibnnoeceaeaaDoor
open Go.RowKit

/-- A callee that leaves the world alone, as go_quiet asks. -/
theorem quiet_eq {P : Program} {f : FuncId} {args : Array Value} {w : World} {n : Nat} {v : Value} (h : Calls P f args (w.drewN n) fun e w' => e = .returned v ∧ w.drewN n = w') : Calls P f args (w.drewN n) fun e w'' => e = .returned v ∧ ∃ m, w'' = w.drewN m :=
  h.mono fun _ _ ⟨he, hm⟩ => ⟨he, n, hm.symm⟩

theorem below_drewN' (B : Nat) (w : World) (n : Nat) : Below B w (w.drewN n) := ⟨rfl, rfl, rfl, Nat.le_refl _, fun _ _ => rfl⟩

end Go.Proofs.YtkjibnnoeceaeaaDoor
