/- What BoardCopies takes besides: a step by value, opened. -/
import Derived.Test.YtkcfacbnbjkheaaDoorBoardOpen
import Derived.Test.YtkcfacbnbjkheaaDoorBoardCopies
namespace Go.Proofs.YtkcfacbnbjkheaaDoor
open Go.ChangeShapes Go.WideShapes Go.ChangeAt Go.RowKit Go.Deep
set_option linter.unusedVariables false

set_option maxRecDepth 100000 in
theorem open_op {H : Type} {enc : TypeId × Value → H} {w : World} {base b0 : Nat} {spare : Nat → Bool} {held : Bool} {r : Reach} {v : Value} {d : DataW H} {p : List MemPlace}
    (hv : Value.okWide Tryd.prog w r b0 53 v) (h : DataW.Trod enc Tryd.prog w base spare held 53 v d p) : ∃ y : Opr, OprV v y := by
  obtain ⟨cs, rfl⟩ : ∃ cs, v = .agg cs := by
    simp only [Value.okWide, Tryd.underlying53] at hv
    obtain ⟨cs, h1, h2, _⟩ := hv
    exact ⟨cs, h1⟩
  obtain ⟨fuel, hf⟩ := h
  obtain ⟨l⟩ := cs
  obtain ⟨y, hok, hcs⟩ := open_cells hf
  have e : l = [.int .i64 y.K, .int .i64 y.N, .int .u16 y.A, .int .u8 y.V, .string y.nm] := hcs
  subst e
  exact ⟨y, hok, rfl⟩
end Go.Proofs.YtkcfacbnbjkheaaDoor
