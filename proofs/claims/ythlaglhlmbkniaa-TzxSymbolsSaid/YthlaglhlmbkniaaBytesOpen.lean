/- Bytes, and rows of bytes, as arguments: opened. -/
import Derived.Test.YthlaglhlmbkniaaBytes
import Derived.Test.YthlaglhlmbkniaaProg
import Derived.ChangeSlices
import Derived.OpenShut
import Derived.Deep.Slices
namespace Go.Proofs.Ythlaglhlmbkniaa
open Go.ChangeShapes Go.WideShapes Go.RowKit Go.Deep
set_option linter.unusedVariables false

theorem laidOut : laidOutB Try.prog = true := by kernel_rfl
def BytesV (w : World) (v : Value) (l : List Int) : Prop := ∃ A n cap, v = .slice A n cap ∧ BAt8 (fun _ => True) w A n cap l
theorem open_u8c {H : Type} {enc : TypeId × Value → H} {w : World} {base fuel : Nat} {spare : Nat → Bool} {held : Bool} {v : Value} {x : DataW H × List MemPlace} (hf : DataW.trod enc Try.prog w base spare held fuel 25 [v] = some x) : ∃ l : List Int, BytesV w v l := by
  have hc : Try.prog.cellsOf 5 = 1 := by kernel_rfl
  rcases open_ints Try.underlying25 Try.underlying5 hc hf with ⟨hcs, hx⟩ | ⟨a, len, cap, zs, hcs, _, hl, hm, hz, hx, hcell, hwz⟩
  · obtain rfl : v = .slice none 0 0 := by simpa using hcs
    exact ⟨[], none, 0, 0, rfl, BAt8.empty _ _⟩
  · obtain rfl : v = .slice (some a) len cap := by simpa using hcs
    have hlz : len ≤ zs.length := by rw [hz]; split <;> omega
    refine ⟨zs.take len, some a, len, cap, rfl, by simp; omega, hl, hm, fun h => (by cases h), Byte8.take (fun j => ?_) len, fun hp => ?_⟩
    · unfold gI
      rw [List.getD_eq_getElem?_getD]
      exact range_u8 hwz j
    · obtain ⟨b, off, rfl, hcell'⟩ := ints_at hcell (by omega)
      refine ⟨b, off, rfl, trivial, ?_, fun j hj => ?_⟩
      · exact blk_lt (hcell' 0 (by omega))
      · rw [hcell' j (by omega), gI_take _ _ _ hj]
        rfl
set_option maxRecDepth 100000 in
theorem open_u8 {H : Type} {enc : TypeId × Value → H} {w : World} {base b0 : Nat} {spare : Nat → Bool} {held : Bool} {r : Reach} {v : Value} {d : DataW H} {p : List MemPlace}
    (hv : Value.okWide Try.prog w r b0 25 v) (h : DataW.Trod enc Try.prog w base spare held 25 v d p) : ∃ l : List Int, BytesV w v l := by
  obtain ⟨a1, len, cap, rfl⟩ := okWide_slice Try.underlying25 hv
  obtain ⟨fuel, hf⟩ := h
  exact open_u8c (v := .slice a1 len cap) hf

end Go.Proofs.Ythlaglhlmbkniaa
