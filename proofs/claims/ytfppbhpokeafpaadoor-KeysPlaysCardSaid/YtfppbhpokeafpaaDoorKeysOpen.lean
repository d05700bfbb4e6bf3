/- What the laws of layer 10 take: the table of names, as the rows list it; presses and releases as an argument. -/
import Derived.Test.YtfppbhpokeafpaaDoorKeysTab
import Derived.Test.YtfppbhpokeafpaaDoorRows
import Derived.ProofKit
import Derived.OpenShut
import Derived.ChangeArms
import Derived.ChangeSame
import Derived.ChangeOld
import Derived.SliceStrings
import Derived.Deep.Slices
import Derived.Deep.Fields
import Derived.Lib.LaidTab
import Derived.Stop.LaidErr
import Derived.LaidMore
import Derived.MakeChecks
namespace Go.Proofs.YtfppbhpokeafpaaDoor
open Go.ChangeShapes Go.WideShapes Go.ChangeAt Go.RowKit
set_option linter.unusedVariables false

theorem own : ownKnob Tryd.prog.godebug = none := by kernel_rfl
theorem block_of_cell {w : World} {a : Addr} {v : Value} (h : w.cell? a = some v) : a.block < w.heap.size := by
  unfold World.cell? at h
  split at h
  · rename_i hb; exact (Array.getElem?_eq_some_iff.1 hb).1
  · cases h
def rowD {H : Type} (r : Nat) : DataW H := .slice ((List.range 5).map fun j => .lit (.string (nmL.getD (5 * r + j) []))) []
theorem row_open {H : Type} {enc : TypeId × Value → H} {P : Program} {w : World} {base : Nat} {held : Bool} {fuel : Nat} {t e : TypeId} {r : Nat} {v : Value} {p : List MemPlace} (ht : P.underlying t = some (.slice e)) (he : P.underlying e = some .string) (hc : P.cellsOf e = 1)
    (h : DataW.trod enc P w base (fun _ => true) held fuel t [v] = some (rowD r, p)) : ∃ b o, b < w.heap.size ∧ v = .slice (some ⟨b, o, none⟩) 5 5 ∧ ∀ j, j < 5 → w.cell? ⟨b, o + j, none⟩ = some (nmV (5 * r + j)) := by
  rcases open_strings ht he hc h with ⟨_, hx⟩ | ⟨a, len, cap, ss, hcs, _, _, _, hlen, hx, hat, _⟩
  · cases hx
  · simp only [if_true] at hlen
    have hv : v = .slice (some a) len cap := by simpa using hcs
    have hx1 : rowD r = (DataW.slice (strs (ss.take len)) (strs (ss.drop len)) : DataW H) := congrArg Prod.fst hx
    unfold rowD at hx1
    injection hx1 with e1 e2
    have l2 : (ss.drop len).length = 0 := by
      have := congrArg List.length e2
      simpa [strs] using this.symm
    have l1 : (ss.take len).length = 5 := by
      have := congrArg List.length e1
      simpa [strs] using this.symm
    rw [List.length_drop] at l2
    rw [List.length_take] at l1
    have hs5 : ss.length = 5 := by omega
    have hl5 : len = 5 := by omega
    have hc5 : cap = 5 := by omega
    obtain ⟨b, o, spot⟩ := a
    have h0 := hat 0 (by omega)
    have hspot : spot = none := by simpa [Addr.add] using World.cell?_spot h0
    subst hspot
    refine ⟨b, o, by simpa [Addr.add] using block_of_cell h0, by rw [hv, hl5, hc5], fun j hj => ?_⟩
    have hj' := hat j (by omega)
    rw [Go.WideShapes.add_plain] at hj'
    rw [hj']
    have e3 : (strs (ss.take len) : List (DataW H))[j]? = ((List.range 5).map fun j => (DataW.lit (.string (nmL.getD (5 * r + j) [])) : DataW H))[j]? := by rw [e1]
    unfold strs at e3
    rw [List.getElem?_map, List.getElem?_take_of_lt (by omega), List.getElem?_eq_getElem (by omega), List.getElem?_map, List.getElem?_eq_getElem (by simpa using hj)] at e3
    simp only [Option.map_some, Option.some.injEq, DataW.lit.injEq, Lit.string.injEq, List.getElem_range] at e3
    rw [List.getD_eq_getElem?_getD, List.getElem?_eq_getElem (by omega), Option.getD_some]
    unfold nmV nm
    rw [← e3]
    congr 2
set_option maxRecDepth 100000 in
theorem names_of_laid {W : World} (h : laidMetH Tryd.prog Rows.keysPlaysRow.laid W) : ∃ A, NmTab A W := by
  rw [MakeChecks.laidMetH_plain _ _ _ (by kernel_rfl)] at h
  obtain ⟨ps, ⟨g', t', cs, fuel, p, q, hg', ht', hvar, hd, _, _⟩, _⟩ := h
  obtain rfl := Option.some.inj ((show Tryd.prog.globalNamed "squeal/keys.names" = some 0 by kernel_rfl).symm.trans hg')
  obtain rfl := Option.some.inj ((show (Tryd.prog.globals[0]?).map (·.type) = some 50 by kernel_rfl).symm.trans ht')
  have hdat : (Rows.laid_squeal_keys_names : DataW Unit) = .agg ((List.range 8).map rowD) := by kernel_rfl
  rw [hdat] at hd
  have hc8 : Tryd.prog.cellsOf 50 = 8 := by kernel_rfl
  have hc1 : Tryd.prog.cellsOf 30 = 1 := by kernel_rfl
  have hs1 : Tryd.prog.cellsOf 9 = 1 := by kernel_rfl
  obtain ⟨xs, n, _, hx, hl, hlen, hat⟩ := DataW.trod_array Tryd.underlying50 hd
  rw [hc8, Array.length_toList] at hl
  rw [hc1] at hat
  have hmap : xs.map (·.1) = (List.range 8).map rowD := by
    have := congrArg Prod.fst hx
    simpa using this.symm
  refine ⟨cs, ⟨hl, fun j v hj => ?_, fun r hr => ?_⟩⟩
  · rw [Nat.zero_add, World.var?_cell hg' hvar j]; simpa using hj
  · have hr' := hat r hr
    rw [Nat.mul_one, List.drop_eq_getElem_cons (by simpa [hl] using hr), List.take_succ_cons, List.take_zero, List.getElem?_eq_getElem (by omega)] at hr'
    have h2 : (xs.map (·.1))[r]? = ((List.range 8).map (rowD (H := Unit)))[r]? := by rw [hmap]
    rw [List.getElem?_map, List.getElem?_eq_getElem (by omega), List.getElem?_map, List.getElem?_eq_getElem (by simpa using hr)] at h2
    simp only [Option.map_some, Option.some.injEq, List.getElem_range] at h2
    have h3 : xs[r]'(by omega) = (rowD r, (xs[r]'(by omega)).2) := by rw [← h2]
    rw [h3] at hr'
    obtain ⟨b, o, hb, hv, hcell⟩ := row_open Tryd.underlying30 Tryd.underlying9 hs1 hr'
    refine ⟨b, o, hb, ?_, hcell⟩
    rw [Array.getElem?_eq_getElem (by omega)]
    rw [Array.getElem_toList] at hv
    rw [hv]
end Go.Proofs.YtfppbhpokeafpaaDoor
