/- Bytes as an argument, opened. -/
import Derived.Test.YtkcfacbnbjkheaaBoardNew
import Derived.ProofKit
import Derived.OpenShut
import Derived.ChangeArms
import Derived.ChangeSame
import Derived.ChangeOld
import Derived.Carry
import Derived.ChangeSlices
namespace Go.Proofs.Ytkcfacbnbjkheaa
open Go.ChangeShapes Go.WideShapes Go.ChangeAt Go.RowKit
set_option linter.unusedVariables false

theorem laidOut : laidOutB Try.prog = true := by kernel_rfl
theorem block_of_cell {w : World} {a : Addr} {v : Value} (h : w.cell? a = some v) : a.block < w.heap.size := by
  unfold World.cell? at h
  split at h
  · rename_i hb; exact (Array.getElem?_eq_some_iff.1 hb).1
  · cases h
structure Bys where
  sp : Option Addr
  n : Nat
  c : Nat
  f : Nat → Int
def BytesIn (w : World) (v : Value) (l : Bys) : Prop := v = .slice l.sp l.n l.c ∧ l.n ≤ maxLen ∧ SrcAt w l.sp l.n l.f
theorem open_bys {H : Type} {enc : TypeId × Value → H} {w : World} {b0 : Nat} {r : Reach} {v : Value} {d : DataW H} {p : List MemPlace}
    (hv : Value.okWide Try.prog w r b0 22 v) (h : DataW.Trod enc Try.prog w 0 (fun _ => true) true 22 v d p) : ∃ l : Bys, BytesIn w v l := by
  have hc : Try.prog.cellsOf 5 = 1 := by kernel_rfl
  obtain ⟨a1, len, cap, rfl⟩ := okWide_slice Try.underlying22 hv
  obtain ⟨fuel, hf⟩ := h
  rcases open_ints Try.underlying22 Try.underlying5 hc hf with ⟨hcs, hx⟩ | ⟨a, len', cap', zs, hcs, _, hl, hm, hz, hx, hcell, hwz⟩
  · simp [Value.cells] at hcs
    obtain ⟨rfl, rfl, rfl⟩ := hcs
    exact ⟨⟨none, 0, 0, fun _ => 0⟩, rfl, Nat.zero_le _, fun h => absurd h (by simp)⟩
  · simp [Value.cells] at hcs
    obtain ⟨rfl, rfl, rfl⟩ := hcs
    simp only [if_true] at hz
    refine ⟨⟨some a, len, cap, fun j => zs.getD j 0⟩, rfl, by show len ≤ maxLen; omega, fun h0 => ?_⟩
    have h0' : 0 < len := h0
    obtain ⟨b, off, rfl, hcell'⟩ := ints_at hcell (by omega)
    refine ⟨b, off, rfl, block_of_cell (hcell' 0 (by omega)), fun j hj => ?_⟩
    have hj' : j < len := hj
    rw [hcell' j (by omega)]

end Go.Proofs.Ytkcfacbnbjkheaa
