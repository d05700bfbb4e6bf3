/- Bytes as an argument: opened, and shut behind the call. -/
import Derived.Test.YtkjibnnoeceaeaaDoorOpOpen
import Derived.Test.YtkjibnnoeceaeaaDoorOpSrc
import Derived.ChangeSlices
import Derived.OpenShut
import Derived.Below
namespace Go.Proofs.YtkjibnnoeceaeaaDoor
open Go.ChangeShapes Go.WideShapes Go.ChangeAt Go.RowKit
set_option linter.unusedVariables false

theorem block_of_cell {w : World} {a : Addr} {v : Value} (h : w.cell? a = some v) : a.block < w.heap.size := by
  unfold World.cell? at h
  split at h
  · rename_i hb; exact (Array.getElem?_eq_some_iff.1 hb).1
  · cases h
theorem bytes_get (zs : List Int) (hb : ∀ j, 0 ≤ zs.getD j 0 ∧ zs.getD j 0 ≤ 255) (n j : Nat) (hj : j < n) : ((((zs.take n).map Int.toNat).getD j 0 : Nat) : Int) = zs.getD j 0 := by
  have h := hb j
  rw [List.getD_eq_getElem?_getD, List.getD_eq_getElem?_getD] at *
  rw [List.getElem?_map, List.getElem?_take_of_lt hj]
  cases hz : zs[j]? with
  | none => simp
  | some z => rw [hz] at h; simp at h ⊢; omega
theorem bytes_lt (zs : List Int) (hb : ∀ j, 0 ≤ zs.getD j 0 ∧ zs.getD j 0 ≤ 255) (n j : Nat) : ((zs.take n).map Int.toNat).getD j 0 < 256 := by
  by_cases hj : j < n
  · have := bytes_get zs hb n j hj
    have := hb j
    omega
  · rw [List.getD_eq_getElem?_getD, List.getElem?_eq_none (by simp; omega)]
    simp
/-- Bytes that came in: nil, or at some place. -/
def Src8 (w : World) (v : Value) (l : List Nat) : Prop := BytesAt w w.heap.size v l ∧ (v = .slice none 0 0 ∨ ∃ ad cq, v = .slice (some ad) l.length cq)
theorem bytes_nil (w : World) (B : Nat) : BytesAt w B (.slice none 0 0) [] := by
  refine ⟨none, 0, ?_, ?_, ?_, fun j => ?_, fun h => ?_⟩
  · rfl
  · exact Nat.le_refl 0
  · unfold maxLen; omega
  · simp
  · exact absurd h (by simp)
set_option maxRecDepth 100000 in
theorem open_bytes {H : Type} {enc : TypeId × Value → H} {w : World} {b0 : Nat} {r : Reach} {v : Value} {d : DataW H} {p : List MemPlace}
    (hv : Value.okWide Tryd.prog w r b0 22 v) (h : DataW.Trod enc Tryd.prog w 0 (fun _ => true) true 22 v d p) : ∃ l : List Nat, Src8 w v l ∧ ∀ w', Below w.heap.size w w' → DataW.Trod enc Tryd.prog w' 0 (fun b => decide (b < w.heap.size)) true 22 v d p := by
  have hc : Tryd.prog.cellsOf 5 = 1 := by kernel_rfl
  obtain ⟨a1, len, cap, rfl⟩ := okWide_slice Tryd.underlying22 hv
  obtain ⟨fuel, hf⟩ := h
  rcases open_ints Tryd.underlying22 Tryd.underlying5 hc hf with ⟨hcs, hx⟩ | ⟨a, len', cap', zs, hcs, _, hl, hm, hz, hx, hcell, hwz⟩
  · simp [Value.cells] at hcs
    obtain ⟨rfl, rfl, rfl⟩ := hcs
    simp only [Prod.mk.injEq] at hx
    obtain ⟨rfl, rfl⟩ := hx
    exact ⟨[], ⟨bytes_nil w _, Or.inl rfl⟩, fun w' _ => shut_slice_nil Tryd.underlying22⟩
  · simp [Value.cells] at hcs
    obtain ⟨rfl, rfl, rfl⟩ := hcs
    simp only [Prod.mk.injEq] at hx
    obtain ⟨rfl, rfl⟩ := hx
    simp only [if_true] at hz
    have hb : ∀ j, 0 ≤ zs.getD j 0 ∧ zs.getD j 0 ≤ 255 := fun j => by rw [List.getD_eq_getElem?_getD]; exact range_u8 hwz j
    have hlen : ((zs.take len).map Int.toNat).length = len := by simp; omega
    refine ⟨(zs.take len).map Int.toNat, ⟨⟨some a, cap, by rw [hlen], by omega, hm, bytes_lt zs hb len, fun hp => ?_⟩, Or.inr ⟨a, cap, by rw [hlen]⟩⟩, fun w' hB => ⟨2, ?_⟩⟩
    · rw [hlen] at hp
      obtain ⟨b, off, rfl, hcell'⟩ := ints_at hcell (by omega)
      refine ⟨b, off, rfl, block_of_cell (hcell' 0 (by omega)), fun j hj => ?_⟩
      rw [hlen] at hj
      rw [hcell' j (by omega), bytes_get zs hb len j hj]
    · refine shut_ints 0 Tryd.underlying22 Tryd.underlying5 hc (Nat.zero_le _) hl hm ?_ (fun i hi => (hB.cell (block_of_cell (hcell i hi))).trans (hcell i hi)) hwz
      by_cases h0 : 0 < cap
      · have hblk := block_of_cell (hcell 0 (by omega))
        rw [show (a.add 0).block = a.block from Go.ChangeShapes.block_add a 0] at hblk
        rw [hz, if_pos (by simpa using hblk)]
      · have : cap = 0 := by omega
        rw [hz]
        split <;> omega

end Go.Proofs.YtkjibnnoeceaeaaDoor
