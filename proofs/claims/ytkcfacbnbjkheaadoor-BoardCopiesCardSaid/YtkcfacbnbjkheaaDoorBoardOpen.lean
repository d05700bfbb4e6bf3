/- What BoardPlays and BoardCopies take: the tables of names and of waits, as the rows list them; steps as an argument, opened. -/
import Derived.Test.YtkcfacbnbjkheaaDoorBoardSteps
import Derived.Test.YtkcfacbnbjkheaaDoorRows
import Derived.ProofKit
import Derived.OpenShut
import Derived.ChangeArms
import Derived.ChangeSame
import Derived.ChangeOld
import Derived.SliceStrings
import Derived.Deep.Slices
import Derived.Deep.Fields
import Derived.Lib.LaidTab
import Derived.Stop.LaidErr
import Derived.LaidMore
import Derived.MakeChecks
namespace Go.Proofs.YtkcfacbnbjkheaaDoor
open Go.ChangeShapes Go.WideShapes Go.ChangeAt Go.RowKit Go.Deep
set_option linter.unusedVariables false

theorem own : ownKnob Tryd.prog.godebug = none := by kernel_rfl
theorem laidOut : laidOutB Tryd.prog = true := by kernel_rfl
theorem u16_bd {a : Int} (h : (Lit.int .u16 a).wf = true) : 0 ≤ a ∧ a ≤ 65535 := by
  simp [Lit.wf] at h
  exact ⟨h.1, by have := h.2; simp [IntKind.max, IntKind.bits] at this; omega⟩
theorem block_of_cell {w : World} {a : Addr} {v : Value} (h : w.cell? a = some v) : a.block < w.heap.size := by
  unfold World.cell? at h
  split at h
  · rename_i hb; exact (Array.getElem?_eq_some_iff.1 hb).1
  · cases h
def rowD {H : Type} (r : Nat) : DataW H := .slice ((List.range 5).map fun j => .lit (.string (nmL.getD (5 * r + j) []))) []
theorem row_open {H : Type} {enc : TypeId × Value → H} {P : Program} {w : World} {base : Nat} {held : Bool} {fuel : Nat} {t e : TypeId} {r : Nat} {v : Value} {p : List MemPlace} (ht : P.underlying t = some (.slice e)) (he : P.underlying e = some .string) (hc : P.cellsOf e = 1)
    (h : DataW.trod enc P w base (fun _ => true) held fuel t [v] = some (rowD r, p)) : ∃ b o, b < w.heap.size ∧ v = .slice (some ⟨b, o, none⟩) 5 5 ∧ ∀ j, j < 5 → w.cell? ⟨b, o + j, none⟩ = some (nmV (5 * r + j)) := by
  rcases open_strings ht he hc h with ⟨_, hx⟩ | ⟨a, len, cap, ss, hcs, _, _, _, hlen, hx, hat, _⟩
  · cases hx
  · simp only [if_true] at hlen
    have hv : v = .slice (some a) len cap := by simpa using hcs
    have hx1 : rowD r = (DataW.slice (strs (ss.take len)) (strs (ss.drop len)) : DataW H) := congrArg Prod.fst hx
    unfold rowD at hx1
    injection hx1 with e1 e2
    have l2 : (ss.drop len).length = 0 := by
      have := congrArg List.length e2
      simpa [strs] using this.symm
    have l1 : (ss.take len).length = 5 := by
      have := congrArg List.length e1
      simpa [strs] using this.symm
    rw [List.length_drop] at l2
    rw [List.length_take] at l1
    have hs5 : ss.length = 5 := by omega
    have hl5 : len = 5 := by omega
    have hc5 : cap = 5 := by omega
    obtain ⟨b, o, spot⟩ := a
    have h0 := hat 0 (by omega)
    have hspot : spot = none := by simpa [Addr.add] using World.cell?_spot h0
    subst hspot
    refine ⟨b, o, by simpa [Addr.add] using block_of_cell h0, by rw [hv, hl5, hc5], fun j hj => ?_⟩
    have hj' := hat j (by omega)
    rw [Go.WideShapes.add_plain] at hj'
    rw [hj']
    have e3 : (strs (ss.take len) : List (DataW H))[j]? = ((List.range 5).map fun j => (DataW.lit (.string (nmL.getD (5 * r + j) [])) : DataW H))[j]? := by rw [e1]
    unfold strs at e3
    rw [List.getElem?_map, List.getElem?_take_of_lt (by omega), List.getElem?_eq_getElem (by omega), List.getElem?_map, List.getElem?_eq_getElem (by simpa using hj)] at e3
    simp only [Option.map_some, Option.some.injEq, DataW.lit.injEq, Lit.string.injEq, List.getElem_range] at e3
    rw [List.getD_eq_getElem?_getD, List.getElem?_eq_getElem (by omega), Option.getD_some]
    unfold nmV nm
    rw [← e3]
    congr 2
set_option maxRecDepth 100000 in
theorem names_of {rest : List (String × DataW Unit)} {W : World} (h : laidMet Tryd.prog (("squeal/keys.names", Rows.laid_squeal_keys_names) :: rest) W) : ∃ A, NmTab A W := by
  obtain ⟨ps, ⟨g', t', cs, fuel, p, q, hg', ht', hvar, hd, _, _⟩, _⟩ := h
  obtain rfl := Option.some.inj ((show Tryd.prog.globalNamed "squeal/keys.names" = some 1 by kernel_rfl).symm.trans hg')
  obtain rfl := Option.some.inj ((show (Tryd.prog.globals[1]?).map (·.type) = some 111 by kernel_rfl).symm.trans ht')
  have hdat : (Rows.laid_squeal_keys_names : DataW Unit) = .agg ((List.range 8).map rowD) := by kernel_rfl
  rw [hdat] at hd
  have hc8 : Tryd.prog.cellsOf 111 = 8 := by kernel_rfl
  have hc1 : Tryd.prog.cellsOf 90 = 1 := by kernel_rfl
  have hs1 : Tryd.prog.cellsOf 9 = 1 := by kernel_rfl
  obtain ⟨xs, n, _, hx, hl, hlen, hat⟩ := DataW.trod_array Tryd.underlying111 hd
  rw [hc8, Array.length_toList] at hl
  rw [hc1] at hat
  have hmap : xs.map (·.1) = (List.range 8).map rowD := by
    have := congrArg Prod.fst hx
    simpa using this.symm
  refine ⟨cs, ⟨hl, fun j v hj => ?_, fun r hr => ?_⟩⟩
  · rw [Nat.zero_add, World.var?_cell hg' hvar j]; simpa using hj
  · have hr' := hat r hr
    rw [Nat.mul_one, List.drop_eq_getElem_cons (by simpa [hl] using hr), List.take_succ_cons, List.take_zero, List.getElem?_eq_getElem (by omega)] at hr'
    have h2 : (xs.map (·.1))[r]? = ((List.range 8).map (rowD (H := Unit)))[r]? := by rw [hmap]
    rw [List.getElem?_map, List.getElem?_eq_getElem (by omega), List.getElem?_map, List.getElem?_eq_getElem (by simpa using hr)] at h2
    simp only [Option.map_some, Option.some.injEq, List.getElem_range] at h2
    have h3 : xs[r]'(by omega) = (rowD r, (xs[r]'(by omega)).2) := by rw [← h2]
    rw [h3] at hr'
    obtain ⟨b, o, hb, hv, hcell⟩ := row_open Tryd.underlying90 Tryd.underlying9 hs1 hr'
    refine ⟨b, o, hb, ?_, hcell⟩
    rw [Array.getElem?_eq_getElem (by omega)]
    rw [Array.getElem_toList] at hv
    rw [hv]
set_option maxRecDepth 100000 in
theorem waits_of {rest : List (String × DataW Unit)} {W : World} (h2 : laidMet Tryd.prog (("squeal/ula.waits", Rows.laid_squeal_ula_waits) :: rest) W) : Waits W := by
  have g : Tryd.prog.globalNamed "squeal/ula.waits" = some 0 := by kernel_rfl
  have t := Lib.tabIs_of_head (P := Tryd.prog) (W := W) (name := "squeal/ula.waits") (k := .i64) (zs := [6, 5, 4, 3, 2, 1, 0, 0]) (rest := rest) g (by kernel_rfl) Tryd.underlying110 Tryd.underlying3 (by kernel_rfl) (by kernel_rfl) h2
  intro n
  have e : n % 8 = 0 ∨ n % 8 = 1 ∨ n % 8 = 2 ∨ n % 8 = 3 ∨ n % 8 = 4 ∨ n % 8 = 5 ∨ n % 8 = 6 ∨ n % 8 = 7 := by omega
  unfold heldV
  rcases e with e | e | e | e | e | e | e | e <;> rw [e]
  · exact t.cell g 0 (by decide)
  · exact t.cell g 1 (by decide)
  · exact t.cell g 2 (by decide)
  · exact t.cell g 3 (by decide)
  · exact t.cell g 4 (by decide)
  · exact t.cell g 5 (by decide)
  · exact t.cell g 6 (by decide)
  · exact t.cell g 7 (by decide)
theorem plays_of_laid {W : World} (h : laidMetH Tryd.prog Rows.boardPlaysRow.laid W) : Waits W ∧ ∃ tb, NmTab tb W := by
  rw [MakeChecks.laidMetH_plain _ _ _ (by kernel_rfl)] at h
  have h2 : laidMet Tryd.prog [("squeal/keys.names", Rows.laid_squeal_keys_names), ("squeal/ula.waits", Rows.laid_squeal_ula_waits)] W := h
  exact ⟨waits_of h2.tail, names_of h2⟩
theorem copies_of_laid {W : World} (h : laidMetH Tryd.prog Rows.boardCopiesRow.laid W) : Waits W ∧ ∃ tb, NmTab tb W := by
  rw [MakeChecks.laidMetH_plain _ _ _ (by kernel_rfl)] at h
  have h2 : laidMet Tryd.prog [("squeal/keys.names", Rows.laid_squeal_keys_names), ("squeal/ula.waits", Rows.laid_squeal_ula_waits)] W := h
  exact ⟨waits_of h2.tail, names_of h2⟩

instance : Inhabited Opr := ⟨⟨0, 0, 0, 0, ByteArray.empty⟩⟩
set_option maxRecDepth 100000 in
/-- A step's five cells, opened. -/
theorem open_cells {H : Type} {enc : TypeId × Value → H} {w : World} {base : Nat} {spare : Nat → Bool} {held : Bool} {fuel : Nat} {cs : List Value} {x : DataW H × List MemPlace}
    (h : DataW.trod enc Tryd.prog w base spare held fuel 53 cs = some x) : ∃ y : Opr, y.Ok ∧ cs = [.int .i64 y.K, .int .i64 y.N, .int .u16 y.A, .int .u8 y.V, .string y.nm] := by
  have hc : Tryd.prog.cellsOf 53 = 5 := by kernel_rfl
  have e0 : Tryd.prog.cellsOf 3 = 1 := by kernel_rfl
  have e2 : Tryd.prog.cellsOf 51 = 1 := by kernel_rfl
  have e3 : Tryd.prog.cellsOf 5 = 1 := by kernel_rfl
  have e4 : Tryd.prog.cellsOf 9 = 1 := by kernel_rfl
  obtain ⟨xs, n, _, _, hl, hlen, hf⟩ := DataW.trod_struct Tryd.underlying53 h
  rw [hc] at hl
  match cs, hl, xs, hlen with
  | [c0, c1, c2, c3, c4], _, [y0, y1, y2, y3, y4], _ =>
    have f0 : DataW.trod enc Tryd.prog w base spare held n 3 (([c0, c1, c2, c3, c4].drop 0).take (Tryd.prog.cellsOf 3)) = some y0 := hf 0 _ rfl
    have f1 : DataW.trod enc Tryd.prog w base spare held n 3 (([c0, c1, c2, c3, c4].drop 1).take (Tryd.prog.cellsOf 3)) = some y1 := hf 1 _ rfl
    have f2 : DataW.trod enc Tryd.prog w base spare held n 51 (([c0, c1, c2, c3, c4].drop 2).take (Tryd.prog.cellsOf 51)) = some y2 := hf 2 _ rfl
    have f3 : DataW.trod enc Tryd.prog w base spare held n 5 (([c0, c1, c2, c3, c4].drop 3).take (Tryd.prog.cellsOf 5)) = some y3 := hf 3 _ rfl
    have f4 : DataW.trod enc Tryd.prog w base spare held n 9 (([c0, c1, c2, c3, c4].drop 4).take (Tryd.prog.cellsOf 9)) = some y4 := hf 4 _ rfl
    rw [e0] at f0 f1
    rw [e2] at f2
    rw [e3] at f3
    rw [e4] at f4
    simp only [List.drop_zero, List.drop_succ_cons, List.take_succ_cons, List.take_zero] at f0 f1 f2 f3 f4
    obtain ⟨K, k1, _, _⟩ := DataW.trod_int Tryd.underlying3 f0
    obtain ⟨N, k2, _, _⟩ := DataW.trod_int Tryd.underlying3 f1
    obtain ⟨A, k3, _, wA⟩ := DataW.trod_int Tryd.underlying51 f2
    obtain ⟨V, k4, _, wV⟩ := DataW.trod_int Tryd.underlying5 f3
    obtain ⟨s, k5, _, _⟩ := DataW.trod_string Tryd.underlying9 f4
    obtain rfl : c0 = .int .i64 K := by simpa using k1
    obtain rfl : c1 = .int .i64 N := by simpa using k2
    obtain rfl : c2 = .int .u16 A := by simpa using k3
    obtain rfl : c3 = .int .u8 V := by simpa using k4
    obtain rfl : c4 = .string s := by simpa using k5
    obtain ⟨a0, a1⟩ := u16_bd wA
    obtain ⟨v0, v1⟩ := u8_bd wV
    exact ⟨⟨K, N, A.toNat, V, s⟩, ⟨by show A.toNat < 65536; omega, v0, v1⟩, by show _ = [_, _, Value.int .u16 (A.toNat : Int), _, _]; rw [Int.toNat_of_nonneg a0]⟩
set_option maxRecDepth 100000 in
theorem open_oprs {H : Type} {enc : TypeId × Value → H} {w : World} {base b0 : Nat} {spare : Nat → Bool} {held : Bool} {r : Reach} {v : Value} {d : DataW H} {p : List MemPlace}
    (hv : Value.okWide Tryd.prog w r b0 22 v) (h : DataW.Trod enc Tryd.prog w base spare held 22 v d p) : ∃ l : List Opr, OprsAt w v l := by
  have hc2 : Tryd.prog.cellsOf 53 = 5 := by kernel_rfl
  obtain ⟨a1, len, cap, rfl⟩ := okWide_slice Tryd.underlying22 hv
  obtain ⟨fuel, hf⟩ := h
  rcases open_slice Tryd.underlying22 hf with ⟨hcs, _⟩ | ⟨a, len', cap', m, n, D, Pl, hcs, _, hl, hm, hmm, _, hat⟩
  · simp [Value.cells] at hcs
    obtain ⟨rfl, rfl, rfl⟩ := hcs
    exact ⟨[], none, 0, rfl, Nat.le_refl _, by unfold maxLen; omega, fun i hi => absurd hi (by simp)⟩
  · simp [Value.cells] at hcs
    obtain ⟨rfl, rfl, rfl⟩ := hcs
    have hlm : len ≤ m := by rw [hmm]; split <;> omega
    obtain ⟨f, hf⟩ := choose_lt (α := Opr) (n := len) (p := fun i y => y.Ok ∧ ∃ g o, a = ⟨g, o, none⟩ ∧ g < w.heap.size ∧ w.cell? ⟨g, o + i * 5, none⟩ = some (.int .i64 y.K) ∧ w.cell? ⟨g, o + i * 5 + 1, none⟩ = some (.int .i64 y.N) ∧ w.cell? ⟨g, o + i * 5 + 2, none⟩ = some (.int .u16 y.A) ∧ w.cell? ⟨g, o + i * 5 + 3, none⟩ = some (.int .u8 y.V) ∧ w.cell? ⟨g, o + i * 5 + 4, none⟩ = some (.string y.nm)) (fun i hi => by
      obtain ⟨cs', hc, ht⟩ := hat i (by omega)
      rw [hc2] at hc
      obtain ⟨_, hlen, hcell⟩ := World.cells?_some hc
      obtain ⟨y, hok, rfl⟩ := open_cells ht
      have c0 := hcell 0 (by omega)
      have c1 := hcell 1 (by omega)
      have c2 := hcell 2 (by omega)
      have c3 := hcell 3 (by omega)
      have c4 := hcell 4 (by omega)
      simp only [List.getElem?_cons_zero, List.getElem?_cons_succ, add_add] at c0 c1 c2 c3 c4
      obtain ⟨b, o, spot⟩ := a
      have hspot : spot = none := by
        have c00 := hat 0 (by omega)
        obtain ⟨cs0, hc0, _⟩ := c00
        rw [hc2] at hc0
        obtain ⟨_, hl0, hcell0⟩ := World.cells?_some hc0
        have z := hcell0 0 (by omega)
        rw [List.getElem?_eq_getElem (by omega)] at z
        simpa [Addr.add] using World.cell?_spot z
      subst hspot
      rw [Go.WideShapes.add_plain] at c0 c1 c2 c3 c4
      refine ⟨y, hok, b, o, rfl, ?_, ?_, ?_, ?_, ?_, ?_⟩
      · simpa using block_of_cell c0
      · simpa using c0
      · simpa [Nat.add_assoc] using c1
      · simpa [Nat.add_assoc] using c2
      · simpa [Nat.add_assoc] using c3
      · simpa [Nat.add_assoc] using c4)
    refine ⟨(List.range len).map f, some a, cap, by simp, by simp; omega, hm, fun i hi => ?_⟩
    have hi' : i < len := by simpa using hi
    obtain ⟨ok, b, o, rfl, h1, h2⟩ := hf i hi'
    have e : oprAt ((List.range len).map f) i = f i := by
      unfold oprAt
      rw [List.getD_eq_getElem?_getD, List.getElem?_map, List.getElem?_range hi']; rfl
    rw [e]
    exact ⟨ok, b, o, rfl, h1, h2⟩
end Go.Proofs.YtkcfacbnbjkheaaDoor
