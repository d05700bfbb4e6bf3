/- Steps of presses and releases as an argument, opened. -/
import Derived.Test.YtfppbhpokeafpaaDoorKeysPlay
import Derived.Test.YtfppbhpokeafpaaDoorKeysOpen
namespace Go.Proofs.YtfppbhpokeafpaaDoor
open Go.ChangeShapes Go.WideShapes Go.ChangeAt Go.RowKit Go.Deep
set_option linter.unusedVariables false

theorem laidOut : laidOutB Tryd.prog = true := by kernel_rfl
set_option maxRecDepth 100000 in
theorem open_ops {H : Type} {enc : TypeId × Value → H} {w : World} {base b0 : Nat} {spare : Nat → Bool} {held : Bool} {r : Reach} {v : Value} {d : DataW H} {p : List MemPlace}
    (hv : Value.okWide Tryd.prog w r b0 22 v) (h : DataW.Trod enc Tryd.prog w base spare held 22 v d p) : ∃ l : List Step, OpsAt w v l := by
  have hc2 : Tryd.prog.cellsOf 48 = 2 := by kernel_rfl
  obtain ⟨a1, len, cap, rfl⟩ := okWide_slice Tryd.underlying22 hv
  obtain ⟨fuel, hf⟩ := h
  rcases open_slice Tryd.underlying22 hf with ⟨hcs, _⟩ | ⟨a, len', cap', m, n, D, Pl, hcs, _, hl, hm, hmm, _, hat⟩
  · simp [Value.cells] at hcs
    obtain ⟨rfl, rfl, rfl⟩ := hcs
    exact ⟨[], none, 0, rfl, Nat.le_refl _, by unfold maxLen; omega, fun i hi => absurd hi (by simp)⟩
  · simp [Value.cells] at hcs
    obtain ⟨rfl, rfl, rfl⟩ := hcs
    have hlm : len ≤ m := by rw [hmm]; split <;> omega
    obtain ⟨f, hf⟩ := choose_lt (α := Step) (n := len) (p := fun i s => ∃ b o, a = ⟨b, o, none⟩ ∧ b < w.heap.size ∧ w.cell? ⟨b, o + i * 2, none⟩ = some (.string s.1) ∧ w.cell? ⟨b, o + i * 2 + 1, none⟩ = some (.bool s.2)) (fun i hi => by
      obtain ⟨cs', hc, ht⟩ := hat i (by omega)
      rw [hc2] at hc
      obtain ⟨_, hlen, hcell⟩ := World.cells?_some hc
      obtain ⟨y0, y1, k, _, _, h0, h1⟩ := trod_struct2 Tryd.underlying48 ht
      match cs', hlen with
      | [x0, x1], _ =>
        have e0 : Tryd.prog.cellsOf 9 = 1 := by kernel_rfl
        have e1 : Tryd.prog.cellsOf 4 = 1 := by kernel_rfl
        dsimp only at h0 h1
        rw [e0] at h0
        rw [e1] at h1
        obtain ⟨s, hs, _, _⟩ := DataW.trod_string Tryd.underlying9 h0
        obtain ⟨on, hon, _⟩ := DataW.trod_bool Tryd.underlying4 h1
        have hs' : x0 = .string s := by simpa using hs
        have hon' : x1 = .bool on := by simpa using hon
        have c0 := hcell 0 (by omega)
        have c1 := hcell 1 (by omega)
        simp only [List.getElem?_cons_zero, List.getElem?_cons_succ, hs', hon', add_add] at c0 c1
        obtain ⟨b, o, spot⟩ := a
        have hspot : spot = none := by
          have := World.cell?_spot c1
          have c00 := hat 0 (by omega)
          obtain ⟨cs0, hc0, _⟩ := c00
          rw [hc2] at hc0
          obtain ⟨_, hl0, hcell0⟩ := World.cells?_some hc0
          have z := hcell0 0 (by omega)
          rw [List.getElem?_eq_getElem (by omega)] at z
          simpa [Addr.add] using World.cell?_spot z
        subst hspot
        rw [Go.WideShapes.add_plain] at c0 c1
        refine ⟨(s, on), b, o, rfl, ?_, ?_, ?_⟩
        · simpa using block_of_cell c0
        · simpa using c0
        · simpa [Nat.add_assoc] using c1)
    refine ⟨(List.range len).map f, some a, cap, by simp, by simp; omega, hm, fun i hi => ?_⟩
    have hi' : i < len := by simpa using hi
    obtain ⟨b, o, rfl, h1, h2, h3⟩ := hf i hi'
    have e : stepAt ((List.range len).map f) i = f i := by
      unfold stepAt
      rw [List.getD_eq_getElem?_getD, List.getElem?_map, List.getElem?_range hi']; rfl
    exact ⟨b, o, rfl, h1, by rw [e]; exact h2, by rw [e]; exact h3⟩
end Go.Proofs.YtfppbhpokeafpaaDoor
