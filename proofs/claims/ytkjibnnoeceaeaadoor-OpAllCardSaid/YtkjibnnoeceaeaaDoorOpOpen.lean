/- What the laws of layer 7 take: the variables that the rows list; an instruction and bytes, opened and shut. -/
import Derived.Test.YtkjibnnoeceaeaaDoorOpTab
import Derived.Test.YtkjibnnoeceaeaaDoorRows
import Derived.Test.YtkjibnnoeceaeaaDoorOpenMix
import Derived.ProofKit
import Derived.OpenShut
import Derived.ChangeArms
import Derived.ChangeSame
import Derived.ChangeOld
import Derived.Lib.LaidTab
import Derived.Stop.LaidErr
import Derived.LaidMore
import Derived.MakeChecks
namespace Go.Proofs.YtkjibnnoeceaeaaDoor
open Go.ChangeShapes Go.WideShapes Go.ChangeAt Go.RowKit
set_option linter.unusedVariables false

theorem own : ownKnob Tryd.prog.godebug = none := by kernel_rfl

/-- An array of texts, as a row lists it. -/
def strData {H : Type} (L : List (List UInt8)) : DataW H := .agg (L.map fun l => .lit (.string l))
theorem cells_of_strs {H : Type} {enc : TypeId × Value → H} {P : Program} {w : World} {base : Nat} {sp : Nat → Bool} {held : Bool} {fuel : Nat} {t e : TypeId} {n : Nat} {cs : List Value} {L : List (List UInt8)} {p : List MemPlace}
    (ht : P.underlying t = some (.array n e)) (he : P.underlying e = some .string) (hce : P.cellsOf e = 1) (hct : P.cellsOf t = n)
    (h : DataW.trod enc P w base sp held fuel t cs = some (strData L, p)) : cs.length = n ∧ L.length = n ∧ ∀ j, j < n → cs[j]? = some (.string (strL (L.getD j []))) := by
  obtain ⟨xs, m, _, hx, hl, hlen, hat⟩ := DataW.trod_array ht h
  rw [hct] at hl
  rw [hce] at hat
  have hmap : xs.map (·.1) = L.map fun l => (DataW.lit (.string l) : DataW H) := by
    have := congrArg Prod.fst hx
    simpa [strData] using this.symm
  have hL : L.length = n := by
    have := congrArg List.length hmap
    simp at this; omega
  refine ⟨hl, hL, fun j hj => ?_⟩
  have hj' := hat j hj
  rw [Nat.mul_one, List.drop_eq_getElem_cons (by omega), List.take_succ_cons, List.take_zero, List.getElem?_eq_getElem (by omega)] at hj'
  obtain ⟨s, hc, hs, _⟩ := DataW.trod_string he hj'
  have h1 : cs[j] = .string s := by injection hc
  have h2 : (xs.map (·.1))[j]? = some (DataW.lit (.string s.data.toList) : DataW H) := by
    rw [List.getElem?_map, List.getElem?_eq_getElem (by omega), hs]; rfl
  rw [hmap, List.getElem?_map, List.getElem?_eq_getElem (by omega)] at h2
  have h3 : L[j] = s.data.toList := by
    simp only [Option.map_some, Option.some.injEq, DataW.lit.injEq, Lit.string.injEq] at h2
    exact h2
  rw [List.getElem?_eq_getElem (by omega), h1, List.getD_eq_getElem?_getD, List.getElem?_eq_getElem (by omega)]
  simp only [Option.getD_some, h3]
  congr 2
theorem strs_of_head {P : Program} {W : World} {name : String} {L : List (List UInt8)} {rest : List (String × DataW Unit)} {g : Nat} {t e : TypeId} {n : Nat}
    (hg : P.globalNamed name = some g) (hty : (P.globals[g]?).map (·.type) = some t) (ht : P.underlying t = some (.array n e)) (he : P.underlying e = some .string) (hce : P.cellsOf e = 1) (hct : P.cellsOf t = n)
    (h : laidMet P ((name, strData L) :: rest) W) : ∀ j, j < n → W.cell? ⟨g, j, none⟩ = some (.string (strL (L.getD j []))) := by
  obtain ⟨ps, ⟨g', t', cs, fuel, p, q, hg', ht', hvar, hd, _, _⟩, _⟩ := h
  obtain rfl := Option.some.inj (hg.symm.trans hg')
  obtain rfl := Option.some.inj (hty.symm.trans ht')
  obtain ⟨h1, h2, h3⟩ := cells_of_strs ht he hce hct hd
  intro j hj
  rw [World.var?_cell hg hvar j]
  have := h3 j hj
  simpa using this
/-- Rows of texts, one behind the other. -/
theorem rows_of_head {P : Program} {W : World} {name : String} {Ls : List (List (List UInt8))} {rest : List (String × DataW Unit)} {g : Nat} {t r e : TypeId} {n m : Nat}
    (hg : P.globalNamed name = some g) (hty : (P.globals[g]?).map (·.type) = some t) (ht : P.underlying t = some (.array n r)) (hr : P.underlying r = some (.array m e)) (he : P.underlying e = some .string) (hce : P.cellsOf e = 1) (hcr : P.cellsOf r = m)
    (h : laidMet P ((name, .agg (Ls.map strData)) :: rest) W) : ∀ i j, i < n → j < m → W.cell? ⟨g, i * m + j, none⟩ = some (.string (strL ((Ls.getD i []).getD j []))) := by
  obtain ⟨ps, ⟨g', t', cs, fuel, p, q, hg', ht', hvar, hd, _, _⟩, _⟩ := h
  obtain rfl := Option.some.inj (hg.symm.trans hg')
  obtain rfl := Option.some.inj (hty.symm.trans ht')
  obtain ⟨xs, k, _, hx, hl, hlen, hat⟩ := DataW.trod_array ht hd
  have hmap : xs.map (·.1) = Ls.map strData := by
    have := congrArg Prod.fst hx
    simpa using this.symm
  have hLs : Ls.length = n := by
    have := congrArg List.length hmap
    simp at this; omega
  intro i j hi hj
  have hi' := hat i hi
  rw [hcr, List.getElem?_eq_getElem (by omega)] at hi'
  have h1 : xs[i].1 = strData Ls[i] := by
    have : (xs.map (·.1))[i]? = (Ls.map strData)[i]? := by rw [hmap]
    rw [List.getElem?_map, List.getElem?_map, List.getElem?_eq_getElem (by omega), List.getElem?_eq_getElem (by omega)] at this
    simpa using this
  have h2 : xs[i] = (strData Ls[i], xs[i].2) := by rw [← h1]
  rw [h2] at hi'
  obtain ⟨_, _, h3⟩ := cells_of_strs hr he hce hcr hi'
  have h4 := h3 j hj
  rw [World.var?_cell hg hvar (i * m + j)]
  rw [List.getElem?_take_of_lt hj, List.getElem?_drop] at h4
  have e : Ls.getD i [] = Ls[i] := by simp [List.getD, hLs, hi]
  rw [e]
  simpa using h4

set_option maxRecDepth 100000 in
/-- The variables, out of what a row lists. -/
theorem optab_of_laid {W : World} (h : laidMetH Tryd.prog Rows.opCodesRow.laid W) : OpTab W := by
  rw [MakeChecks.laidMetH_plain _ _ _ (by kernel_rfl)] at h
  have h1 : laidMet Tryd.prog [("math/bits.deBruijn64tab", Rows.laid_math_bits_deBruijn64tab), ("internal/strconv.uint64pow10", Rows.laid_internal_strconv_uint64pow10), ("squeal/op.registers", Rows.laid_squeal_op_registers), ("squeal/op.pairs", Rows.laid_squeal_op_pairs), ("squeal/op.conditions", Rows.laid_squeal_op_conditions), ("squeal/op.operations", Rows.laid_squeal_op_operations), ("squeal/op.turns", Rows.laid_squeal_op_turns), ("squeal/op.ofBits", Rows.laid_squeal_op_ofBits), ("squeal/op.ofA", Rows.laid_squeal_op_ofA), ("squeal/op.ofI", Rows.laid_squeal_op_ofI), ("squeal/op.modes", Rows.laid_squeal_op_modes), ("squeal/op.blocks", Rows.laid_squeal_op_blocks)] W := laidMet.tail h
  have h2 : laidMet Tryd.prog [("internal/strconv.uint64pow10", Rows.laid_internal_strconv_uint64pow10), ("squeal/op.registers", Rows.laid_squeal_op_registers), ("squeal/op.pairs", Rows.laid_squeal_op_pairs), ("squeal/op.conditions", Rows.laid_squeal_op_conditions), ("squeal/op.operations", Rows.laid_squeal_op_operations), ("squeal/op.turns", Rows.laid_squeal_op_turns), ("squeal/op.ofBits", Rows.laid_squeal_op_ofBits), ("squeal/op.ofA", Rows.laid_squeal_op_ofA), ("squeal/op.ofI", Rows.laid_squeal_op_ofI), ("squeal/op.modes", Rows.laid_squeal_op_modes), ("squeal/op.blocks", Rows.laid_squeal_op_blocks)] W := laidMet.tail h1
  have h3 : laidMet Tryd.prog [("squeal/op.registers", Rows.laid_squeal_op_registers), ("squeal/op.pairs", Rows.laid_squeal_op_pairs), ("squeal/op.conditions", Rows.laid_squeal_op_conditions), ("squeal/op.operations", Rows.laid_squeal_op_operations), ("squeal/op.turns", Rows.laid_squeal_op_turns), ("squeal/op.ofBits", Rows.laid_squeal_op_ofBits), ("squeal/op.ofA", Rows.laid_squeal_op_ofA), ("squeal/op.ofI", Rows.laid_squeal_op_ofI), ("squeal/op.modes", Rows.laid_squeal_op_modes), ("squeal/op.blocks", Rows.laid_squeal_op_blocks)] W := laidMet.tail h2
  have h4 : laidMet Tryd.prog [("squeal/op.pairs", Rows.laid_squeal_op_pairs), ("squeal/op.conditions", Rows.laid_squeal_op_conditions), ("squeal/op.operations", Rows.laid_squeal_op_operations), ("squeal/op.turns", Rows.laid_squeal_op_turns), ("squeal/op.ofBits", Rows.laid_squeal_op_ofBits), ("squeal/op.ofA", Rows.laid_squeal_op_ofA), ("squeal/op.ofI", Rows.laid_squeal_op_ofI), ("squeal/op.modes", Rows.laid_squeal_op_modes), ("squeal/op.blocks", Rows.laid_squeal_op_blocks)] W := laidMet.tail h3
  have h5 : laidMet Tryd.prog [("squeal/op.conditions", Rows.laid_squeal_op_conditions), ("squeal/op.operations", Rows.laid_squeal_op_operations), ("squeal/op.turns", Rows.laid_squeal_op_turns), ("squeal/op.ofBits", Rows.laid_squeal_op_ofBits), ("squeal/op.ofA", Rows.laid_squeal_op_ofA), ("squeal/op.ofI", Rows.laid_squeal_op_ofI), ("squeal/op.modes", Rows.laid_squeal_op_modes), ("squeal/op.blocks", Rows.laid_squeal_op_blocks)] W := laidMet.tail h4
  have h6 : laidMet Tryd.prog [("squeal/op.operations", Rows.laid_squeal_op_operations), ("squeal/op.turns", Rows.laid_squeal_op_turns), ("squeal/op.ofBits", Rows.laid_squeal_op_ofBits), ("squeal/op.ofA", Rows.laid_squeal_op_ofA), ("squeal/op.ofI", Rows.laid_squeal_op_ofI), ("squeal/op.modes", Rows.laid_squeal_op_modes), ("squeal/op.blocks", Rows.laid_squeal_op_blocks)] W := laidMet.tail h5
  have h7 : laidMet Tryd.prog [("squeal/op.turns", Rows.laid_squeal_op_turns), ("squeal/op.ofBits", Rows.laid_squeal_op_ofBits), ("squeal/op.ofA", Rows.laid_squeal_op_ofA), ("squeal/op.ofI", Rows.laid_squeal_op_ofI), ("squeal/op.modes", Rows.laid_squeal_op_modes), ("squeal/op.blocks", Rows.laid_squeal_op_blocks)] W := laidMet.tail h6
  have h8 : laidMet Tryd.prog [("squeal/op.ofBits", Rows.laid_squeal_op_ofBits), ("squeal/op.ofA", Rows.laid_squeal_op_ofA), ("squeal/op.ofI", Rows.laid_squeal_op_ofI), ("squeal/op.modes", Rows.laid_squeal_op_modes), ("squeal/op.blocks", Rows.laid_squeal_op_blocks)] W := laidMet.tail h7
  have h9 : laidMet Tryd.prog [("squeal/op.ofA", Rows.laid_squeal_op_ofA), ("squeal/op.ofI", Rows.laid_squeal_op_ofI), ("squeal/op.modes", Rows.laid_squeal_op_modes), ("squeal/op.blocks", Rows.laid_squeal_op_blocks)] W := laidMet.tail h8
  have h10 : laidMet Tryd.prog [("squeal/op.ofI", Rows.laid_squeal_op_ofI), ("squeal/op.modes", Rows.laid_squeal_op_modes), ("squeal/op.blocks", Rows.laid_squeal_op_blocks)] W := laidMet.tail h9
  have h11 : laidMet Tryd.prog [("squeal/op.modes", Rows.laid_squeal_op_modes), ("squeal/op.blocks", Rows.laid_squeal_op_blocks)] W := laidMet.tail h10
  have h12 : laidMet Tryd.prog [("squeal/op.blocks", Rows.laid_squeal_op_blocks)] W := laidMet.tail h11
  have g1 : Tryd.prog.globalNamed "math/bits.deBruijn64tab" = some 12 := by kernel_rfl
  have t1 := Lib.tabIs_of_head (P := Tryd.prog) (W := W) (name := "math/bits.deBruijn64tab") (k := .u8) (zs := [0, 1, 56, 2, 57, 49, 28, 3, 61, 58, 42, 50, 38, 29, 17, 4, 62, 47, 59, 36, 45, 43, 51, 22, 53, 39, 33, 30, 24, 18, 12, 5, 63, 55, 48, 27, 60, 41, 37, 16, 46, 35, 44, 21, 52, 32, 23, 11, 54, 26, 40, 15, 34, 20, 31, 10, 25, 14, 19, 9, 13, 8, 7, 6]) (rest := [("internal/strconv.uint64pow10", Rows.laid_internal_strconv_uint64pow10), ("squeal/op.registers", Rows.laid_squeal_op_registers), ("squeal/op.pairs", Rows.laid_squeal_op_pairs), ("squeal/op.conditions", Rows.laid_squeal_op_conditions), ("squeal/op.operations", Rows.laid_squeal_op_operations), ("squeal/op.turns", Rows.laid_squeal_op_turns), ("squeal/op.ofBits", Rows.laid_squeal_op_ofBits), ("squeal/op.ofA", Rows.laid_squeal_op_ofA), ("squeal/op.ofI", Rows.laid_squeal_op_ofI), ("squeal/op.modes", Rows.laid_squeal_op_modes), ("squeal/op.blocks", Rows.laid_squeal_op_blocks)]) g1 (by kernel_rfl) Tryd.underlying121 Tryd.underlying5 (by kernel_rfl) (by kernel_rfl) h1
  have c1 : W.cell? ⟨12, 15, none⟩ = some (.int .u8 4) := t1.cell g1 15 (by decide)
  have t2 := Lib.tabIs_of_head (P := Tryd.prog) (W := W) (name := "internal/strconv.uint64pow10") (k := .u64) (zs := [1, 10, 100, 1000, 10000, 100000, 1000000, 10000000, 100000000, 1000000000, 10000000000, 100000000000, 1000000000000, 10000000000000, 100000000000000, 1000000000000000, 10000000000000000, 100000000000000000, 1000000000000000000, 10000000000000000000]) (rest := [("squeal/op.registers", Rows.laid_squeal_op_registers), ("squeal/op.pairs", Rows.laid_squeal_op_pairs), ("squeal/op.conditions", Rows.laid_squeal_op_conditions), ("squeal/op.operations", Rows.laid_squeal_op_operations), ("squeal/op.turns", Rows.laid_squeal_op_turns), ("squeal/op.ofBits", Rows.laid_squeal_op_ofBits), ("squeal/op.ofA", Rows.laid_squeal_op_ofA), ("squeal/op.ofI", Rows.laid_squeal_op_ofI), ("squeal/op.modes", Rows.laid_squeal_op_modes), ("squeal/op.blocks", Rows.laid_squeal_op_blocks)]) (g := 10) (by kernel_rfl) (by kernel_rfl) Tryd.underlying106 Tryd.underlying85 (by kernel_rfl) (by kernel_rfl) h2
  have s3 := strs_of_head (P := Tryd.prog) (W := W) (name := "squeal/op.registers") (L := regsL) (rest := [("squeal/op.pairs", Rows.laid_squeal_op_pairs), ("squeal/op.conditions", Rows.laid_squeal_op_conditions), ("squeal/op.operations", Rows.laid_squeal_op_operations), ("squeal/op.turns", Rows.laid_squeal_op_turns), ("squeal/op.ofBits", Rows.laid_squeal_op_ofBits), ("squeal/op.ofA", Rows.laid_squeal_op_ofA), ("squeal/op.ofI", Rows.laid_squeal_op_ofI), ("squeal/op.modes", Rows.laid_squeal_op_modes), ("squeal/op.blocks", Rows.laid_squeal_op_blocks)]) (g := 0) (by kernel_rfl) (by kernel_rfl) Tryd.underlying49 Tryd.underlying9 (by kernel_rfl) (by kernel_rfl) h3
  have s4 := strs_of_head (P := Tryd.prog) (W := W) (name := "squeal/op.pairs") (L := pairsL) (rest := [("squeal/op.conditions", Rows.laid_squeal_op_conditions), ("squeal/op.operations", Rows.laid_squeal_op_operations), ("squeal/op.turns", Rows.laid_squeal_op_turns), ("squeal/op.ofBits", Rows.laid_squeal_op_ofBits), ("squeal/op.ofA", Rows.laid_squeal_op_ofA), ("squeal/op.ofI", Rows.laid_squeal_op_ofI), ("squeal/op.modes", Rows.laid_squeal_op_modes), ("squeal/op.blocks", Rows.laid_squeal_op_blocks)]) (g := 7) (by kernel_rfl) (by kernel_rfl) Tryd.underlying69 Tryd.underlying9 (by kernel_rfl) (by kernel_rfl) h4
  have s5 := strs_of_head (P := Tryd.prog) (W := W) (name := "squeal/op.conditions") (L := condsL) (rest := [("squeal/op.operations", Rows.laid_squeal_op_operations), ("squeal/op.turns", Rows.laid_squeal_op_turns), ("squeal/op.ofBits", Rows.laid_squeal_op_ofBits), ("squeal/op.ofA", Rows.laid_squeal_op_ofA), ("squeal/op.ofI", Rows.laid_squeal_op_ofI), ("squeal/op.modes", Rows.laid_squeal_op_modes), ("squeal/op.blocks", Rows.laid_squeal_op_blocks)]) (g := 6) (by kernel_rfl) (by kernel_rfl) Tryd.underlying49 Tryd.underlying9 (by kernel_rfl) (by kernel_rfl) h5
  have s6 := strs_of_head (P := Tryd.prog) (W := W) (name := "squeal/op.operations") (L := opersL) (rest := [("squeal/op.turns", Rows.laid_squeal_op_turns), ("squeal/op.ofBits", Rows.laid_squeal_op_ofBits), ("squeal/op.ofA", Rows.laid_squeal_op_ofA), ("squeal/op.ofI", Rows.laid_squeal_op_ofI), ("squeal/op.modes", Rows.laid_squeal_op_modes), ("squeal/op.blocks", Rows.laid_squeal_op_blocks)]) (g := 1) (by kernel_rfl) (by kernel_rfl) Tryd.underlying49 Tryd.underlying9 (by kernel_rfl) (by kernel_rfl) h6
  have s7 := strs_of_head (P := Tryd.prog) (W := W) (name := "squeal/op.turns") (L := turnsL) (rest := [("squeal/op.ofBits", Rows.laid_squeal_op_ofBits), ("squeal/op.ofA", Rows.laid_squeal_op_ofA), ("squeal/op.ofI", Rows.laid_squeal_op_ofI), ("squeal/op.modes", Rows.laid_squeal_op_modes), ("squeal/op.blocks", Rows.laid_squeal_op_blocks)]) (g := 2) (by kernel_rfl) (by kernel_rfl) Tryd.underlying49 Tryd.underlying9 (by kernel_rfl) (by kernel_rfl) h7
  have s8 := strs_of_head (P := Tryd.prog) (W := W) (name := "squeal/op.ofBits") (L := ofBitsL) (rest := [("squeal/op.ofA", Rows.laid_squeal_op_ofA), ("squeal/op.ofI", Rows.laid_squeal_op_ofI), ("squeal/op.modes", Rows.laid_squeal_op_modes), ("squeal/op.blocks", Rows.laid_squeal_op_blocks)]) (g := 3) (by kernel_rfl) (by kernel_rfl) Tryd.underlying69 Tryd.underlying9 (by kernel_rfl) (by kernel_rfl) h8
  have s9 := strs_of_head (P := Tryd.prog) (W := W) (name := "squeal/op.ofA") (L := ofAL) (rest := [("squeal/op.ofI", Rows.laid_squeal_op_ofI), ("squeal/op.modes", Rows.laid_squeal_op_modes), ("squeal/op.blocks", Rows.laid_squeal_op_blocks)]) (g := 5) (by kernel_rfl) (by kernel_rfl) Tryd.underlying49 Tryd.underlying9 (by kernel_rfl) (by kernel_rfl) h9
  have s10 := strs_of_head (P := Tryd.prog) (W := W) (name := "squeal/op.ofI") (L := ofIL) (rest := [("squeal/op.modes", Rows.laid_squeal_op_modes), ("squeal/op.blocks", Rows.laid_squeal_op_blocks)]) (g := 9) (by kernel_rfl) (by kernel_rfl) Tryd.underlying49 Tryd.underlying9 (by kernel_rfl) (by kernel_rfl) h10
  have s11 := strs_of_head (P := Tryd.prog) (W := W) (name := "squeal/op.modes") (L := modesL) (rest := [("squeal/op.blocks", Rows.laid_squeal_op_blocks)]) (g := 8) (by kernel_rfl) (by kernel_rfl) Tryd.underlying69 Tryd.underlying9 (by kernel_rfl) (by kernel_rfl) h11
  have s12 := rows_of_head (P := Tryd.prog) (W := W) (name := "squeal/op.blocks") (Ls := [[[108, 100, 105], [99, 112, 105], [105, 110, 105], [111, 117, 116, 105]], [[108, 100, 100], [99, 112, 100], [105, 110, 100], [111, 117, 116, 100]], [[108, 100, 105, 114], [99, 112, 105, 114], [105, 110, 105, 114], [111, 116, 105, 114]], [[108, 100, 100, 114], [99, 112, 100, 114], [105, 110, 100, 114], [111, 116, 100, 114]]]) (rest := []) (g := 4) (by kernel_rfl) (by kernel_rfl) Tryd.underlying70 Tryd.underlying69 Tryd.underlying9 (by kernel_rfl) (by kernel_rfl) h12
  have hz := World.block_lt_of_cell? W _ c1
  refine ⟨⟨c1, hz⟩, t2, hz, s3, s4, s5, s6, s7, s8, s9, s10, s11, fun j hj => ?_⟩
  have h16 := s12 (j / 4) (j % 4) (by omega) (by omega)
  rw [show j / 4 * 4 + j % 4 = j by omega] at h16
  rw [h16]
  have key : (List.range 16).all (fun j => (([[[108, 100, 105], [99, 112, 105], [105, 110, 105], [111, 117, 116, 105]], [[108, 100, 100], [99, 112, 100], [105, 110, 100], [111, 117, 116, 100]], [[108, 100, 105, 114], [99, 112, 105, 114], [105, 110, 105, 114], [111, 116, 105, 114]], [[108, 100, 100, 114], [99, 112, 100, 114], [105, 110, 100, 114], [111, 116, 100, 114]]] : List (List (List UInt8))).getD (j / 4) []).getD (j % 4) [] == blocksL.getD j []) = true := by decide +kernel
  have := List.all_eq_true.1 key j (List.mem_range.2 hj)
  rw [beq_iff_eq] at this
  rw [this]

def insK7 : List (Option IntKind) := [some .i64, some .i64, some .u8, some .u8, some .u16, some .i64]
theorem ins_cells : Tryd.prog.cellsOf 29 = insK7.length := by kernel_rfl
theorem ins_fields {fs : Array Field} (h : Tryd.prog.underlying 29 = some (.struct fs)) : MixFields Tryd.prog fs insK7 := by
  rw [Tryd.underlying29] at h
  injection h with h
  injection h with h
  subst h
  have c8 : Tryd.prog.cellsOf 5 = 1 := by kernel_rfl
  have c16 : Tryd.prog.cellsOf 24 = 1 := by kernel_rfl
  have c64 : Tryd.prog.cellsOf 3 = 1 := by kernel_rfl
  refine ⟨rfl, fun i hi => ?_⟩
  match i, hi with
  | 0, _ => exact ⟨_, rfl, rfl, c64, Tryd.underlying3⟩
  | 1, _ => exact ⟨_, rfl, rfl, c64, Tryd.underlying3⟩
  | 2, _ => exact ⟨_, rfl, rfl, c8, Tryd.underlying5⟩
  | 3, _ => exact ⟨_, rfl, rfl, c8, Tryd.underlying5⟩
  | 4, _ => exact ⟨_, rfl, rfl, c16, Tryd.underlying24⟩
  | 5, _ => exact ⟨_, rfl, rfl, c64, Tryd.underlying3⟩
  | n + 6, hi => exact absurd (show n + 6 < 6 from hi) (by omega)
theorem mix_nat8 {v : Value} (h : MixOk (some .u8) v) : ∃ n : Nat, v = .int .u8 (n : Int) ∧ n < 256 := by
  match v, h with
  | .int k' n, ⟨e, hw⟩ =>
    subst e
    have := bounds_u8 hw
    exact ⟨n.toNat, by rw [Int.toNat_of_nonneg (by omega)], by omega⟩
theorem mix_nat16 {v : Value} (h : MixOk (some .u16) v) : ∃ n : Nat, v = .int .u16 (n : Int) ∧ n < 65536 := by
  match v, h with
  | .int k' n, ⟨e, hw⟩ =>
    subst e
    have := bounds_u16 hw
    exact ⟨n.toNat, by rw [Int.toNat_of_nonneg (by omega)], by omega⟩
theorem mix_i64 {v : Value} (h : MixOk (some .i64) v) : ∃ n : Int, v = .int .i64 n ∧ (Lit.int .i64 n).wf = true := by
  match v, h with
  | .int k' n, ⟨e, hw⟩ => subst e; exact ⟨n, rfl, hw⟩
theorem ins_of (vs : List Value) (hl : vs.length = insK7.length) (hw : ∀ i (h1 : i < insK7.length) (h2 : i < vs.length), MixOk insK7[i] vs[i]) : ∃ x : In, vs = x.arr.toList ∧ x.Ok := by
  match vs, hl with
  | [v0, v1, v2, v3, v4, v5], _ =>
    obtain ⟨x0, rfl, o0⟩ := mix_i64 (hw 0 (by decide) (by simp))
    obtain ⟨x1, rfl, o1⟩ := mix_i64 (hw 1 (by decide) (by simp))
    obtain ⟨x2, rfl, o2⟩ := mix_nat8 (hw 2 (by decide) (by simp))
    obtain ⟨x3, rfl, o3⟩ := mix_nat8 (hw 3 (by decide) (by simp))
    obtain ⟨x4, rfl, o4⟩ := mix_nat16 (hw 4 (by decide) (by simp))
    obtain ⟨x5, rfl, o5⟩ := mix_i64 (hw 5 (by decide) (by simp))
    exact ⟨⟨x0, x1, x2, x3, x4, x5⟩, rfl, ⟨bounds_i64 o0, bounds_i64 o1, o2, o3, o4, bounds_i64 o5⟩⟩
theorem ins_mix (x : In) (ok : x.Ok) : ∀ i (h1 : i < insK7.length) (h2 : i < x.arr.toList.length), MixOk insK7[i] x.arr.toList[i] := by
  obtain ⟨o0, o1, o2, o3, o4, o5⟩ := ok
  intro i h1 h2
  match i, h1, h2 with
  | 0, _, _ => exact ⟨rfl, WalkArith.wf_i64 o0⟩
  | 1, _, _ => exact ⟨rfl, WalkArith.wf_i64 o1⟩
  | 2, _, _ => exact ⟨rfl, WalkArith.wf_u8 (by omega)⟩
  | 3, _, _ => exact ⟨rfl, WalkArith.wf_u8 (by omega)⟩
  | 4, _, _ => exact ⟨rfl, WalkArith.wf_u16 (by omega)⟩
  | 5, _, _ => exact ⟨rfl, WalkArith.wf_i64 o5⟩
  | n + 6, h1, _ => exact absurd (show n + 6 < 6 from h1) (by omega)
set_option maxRecDepth 100000 in
theorem open_ins {H : Type} {enc : TypeId × Value → H} {w : World} {base b0 : Nat} {spare : Nat → Bool} {held : Bool} {r : Reach} {v : Value} {d : DataW H} {p : List MemPlace}
    (hv : Value.okWide Tryd.prog w r b0 29 v) (h : DataW.Trod enc Tryd.prog w base spare held 29 v d p) : ∃ x : In, v = .agg x.arr ∧ d = .agg (x.arr.toList.map mixD) ∧ p = [] ∧ x.Ok := by
  obtain ⟨vs, hl, rfl, rfl, rfl, hw⟩ := open_mix Tryd.underlying29 ins_cells (ins_fields Tryd.underlying29) hv h
  obtain ⟨x, rfl, ok⟩ := ins_of vs hl hw
  exact ⟨x, by simp, rfl, rfl, ok⟩
set_option maxRecDepth 100000 in
theorem shut_ins {H : Type} {enc : TypeId × Value → H} {w : World} {base : Nat} {spare : Nat → Bool} {held : Bool} {x : In} (ok : x.Ok) : DataW.Trod enc Tryd.prog w base spare held 29 (.agg x.arr) (.agg (x.arr.toList.map mixD)) [] := by
  have := shut_mix (enc := enc) (w := w) (base := base) (spare := spare) (held := held) Tryd.underlying29 ins_cells (ins_fields Tryd.underlying29) rfl (ins_mix x ok)
  simpa using this

end Go.Proofs.YtkjibnnoeceaeaaDoor
