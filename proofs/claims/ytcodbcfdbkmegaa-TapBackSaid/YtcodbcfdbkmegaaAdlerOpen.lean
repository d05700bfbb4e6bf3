/- Parts of bytes as an argument: opened. -/
import Derived.Test.YtcodbcfdbkmegaaParts
import Derived.Test.YtcodbcfdbkmegaaBytesOpen
namespace Go.Proofs.Ytcodbcfdbkmegaa
open Go.ChangeShapes Go.WideShapes Go.RowKit Go.Deep
set_option linter.unusedVariables false

def PartsV (w : World) (v : Value) (L : List (List Int)) : Prop := ∃ A n cap, v = .slice A n cap ∧ Parts (fun _ => True) w A n cap L
set_option maxRecDepth 100000 in
theorem open_parts {H : Type} {enc : TypeId × Value → H} {w : World} {base b0 : Nat} {spare : Nat → Bool} {held : Bool} {r : Reach} {v : Value} {d : DataW H} {p : List MemPlace}
    (hv : Value.okWide Try.prog w r b0 24 v) (h : DataW.Trod enc Try.prog w base spare held 24 v d p) : ∃ L : List (List Int), PartsV w v L := by
  have hc1 : Try.prog.cellsOf 22 = 1 := by kernel_rfl
  obtain ⟨a1, len, cap, rfl⟩ := okWide_slice Try.underlying24 hv
  obtain ⟨fuel, hf⟩ := h
  rcases open_slice1 Try.underlying24 hc1 hf with ⟨hcs, _⟩ | ⟨a, len', cap', m, n, V, D, Pl, hcs, _, hl, hm, hmm, _, hat⟩
  · simp [Value.cells] at hcs
    obtain ⟨rfl, rfl, rfl⟩ := hcs
    exact ⟨[], none, 0, 0, rfl, Parts.empty _ _⟩
  · simp [Value.cells] at hcs
    obtain ⟨rfl, rfl, rfl⟩ := hcs
    have hlm : len ≤ m := by rw [hmm]; split <;> omega
    obtain ⟨f, hf⟩ := choose_lt (α := List Int) (n := len) (p := fun i l => ∃ b o Aj nj cj, a = ⟨b, o, none⟩ ∧ b < w.heap.size ∧ w.cell? ⟨b, o + i, none⟩ = some (.slice Aj nj cj) ∧ BAt8 (fun _ => True) w Aj nj cj l) (fun i hi => by
      obtain ⟨h1, h2⟩ := hat i (by omega)
      obtain ⟨l, Aj, nj, cj, e, hB⟩ := open_u8c h2
      obtain ⟨b, o, spot⟩ := a
      have hspot : spot = none := by
        have z := (hat 0 (by omega)).1
        simpa [Addr.add] using World.cell?_spot z
      subst hspot
      rw [Go.WideShapes.add_plain, e] at h1
      exact ⟨l, b, o, Aj, nj, cj, rfl, by simpa using blk_lt h1, h1, hB⟩)
    refine ⟨(List.range len).map f, some a, len, cap, rfl, by simp, hl, hm, fun i hi => ?_⟩
    obtain ⟨b, o, Aj, nj, cj, rfl, h1, h2, h3⟩ := hf i hi
    have e : ((List.range len).map f).getD i [] = f i := by
      rw [List.getD_eq_getElem?_getD, List.getElem?_map, List.getElem?_range hi]; rfl
    exact ⟨b, o, Aj, nj, cj, rfl, trivial, h1, h2, by rw [e]; exact h3⟩

end Go.Proofs.Ytcodbcfdbkmegaa
