/- What the laws of layer 9 take: two numbers by value, opened and shut; the table of waits, as the rows list it. -/
import Derived.Test.YtmjhipabciaonaaDoorUlaTime
import Derived.Test.YtmjhipabciaonaaDoorRows
import Derived.ProofKit
import Derived.OpenShut
import Derived.ChangeArms
import Derived.ChangeSame
import Derived.ChangeOld
import Derived.Lib.LaidTab
import Derived.Stop.LaidErr
import Derived.LaidMore
import Derived.MakeChecks
namespace Go.Proofs.YtmjhipabciaonaaDoor
open Go.ChangeShapes Go.WideShapes Go.ChangeAt Go.RowKit
set_option linter.unusedVariables false

theorem own : ownKnob Tryd.prog.godebug = none := by kernel_rfl
theorem waits_of_laid {W : World} (h : laidMetH Tryd.prog Rows.ulaWaitsRow.laid W) : Waits W := by
  rw [MakeChecks.laidMetH_plain _ _ _ (by kernel_rfl)] at h
  have h2 : laidMet Tryd.prog [("squeal/ula.waits", Rows.laid_squeal_ula_waits)] W := h
  have g : Tryd.prog.globalNamed "squeal/ula.waits" = some 0 := by kernel_rfl
  have t := Lib.tabIs_of_head (P := Tryd.prog) (W := W) (name := "squeal/ula.waits") (k := .i64) (zs := [6, 5, 4, 3, 2, 1, 0, 0]) (rest := []) g (by kernel_rfl) Tryd.underlying41 Tryd.underlying3 (by kernel_rfl) (by kernel_rfl) h2
  intro n
  have e : n % 8 = 0 ∨ n % 8 = 1 ∨ n % 8 = 2 ∨ n % 8 = 3 ∨ n % 8 = 4 ∨ n % 8 = 5 ∨ n % 8 = 6 ∨ n % 8 = 7 := by omega
  unfold heldV
  rcases e with e | e | e | e | e | e | e | e <;> rw [e]
  · exact t.cell g 0 (by decide)
  · exact t.cell g 1 (by decide)
  · exact t.cell g 2 (by decide)
  · exact t.cell g 3 (by decide)
  · exact t.cell g 4 (by decide)
  · exact t.cell g 5 (by decide)
  · exact t.cell g 6 (by decide)
  · exact t.cell g 7 (by decide)

theorem open_pair {H : Type} {enc : TypeId × Value → H} {w : World} {base b0 : Nat} {spare : Nat → Bool} {held : Bool} {r : Reach} {v : Value} {d : DataW H} {p : List MemPlace}
    (hv : Value.okWide Tryd.prog w r b0 23 v) (h : DataW.Trod enc Tryd.prog w base spare held 23 v d p) : ∃ a b : Int, v = .agg #[.int .i64 a, .int .i64 b] ∧ d = .agg [.lit (.int .i64 a), .lit (.int .i64 b)] ∧ p = [] ∧ (Lit.int .i64 a).wf = true ∧ (Lit.int .i64 b).wf = true := by
  have hc2 : Tryd.prog.cellsOf 23 = 2 := by kernel_rfl
  have hc1 : Tryd.prog.cellsOf 3 = 1 := by kernel_rfl
  obtain ⟨cs, rfl, hsz⟩ : ∃ cs, v = .agg cs ∧ cs.size = Tryd.prog.cellsOf 23 := by
    simp only [Value.okWide, Tryd.underlying23] at hv
    obtain ⟨cs, h1, h2, _⟩ := hv
    exact ⟨cs, h1, h2⟩
  obtain ⟨fuel, hf⟩ := h
  obtain ⟨xs, m, _, hx, hl, hlen, hat⟩ := DataW.trod_array Tryd.underlying23 hf
  have hcs : (Value.agg cs).cells = cs := rfl
  rw [hcs] at hat hl
  rw [hc2] at hl
  rw [hc1] at hat
  obtain ⟨l⟩ := cs
  match l, hl, xs, hlen, hat, hx with
  | [c0, c1], _, [y0, y1], _, hat, hx =>
    have h0 := hat 0 (by decide)
    have h1 := hat 1 (by decide)
    simp only [Nat.zero_mul, List.drop_zero, List.take_succ_cons, List.take_zero, List.getElem?_cons_zero, Nat.one_mul, List.drop_succ_cons, List.getElem?_cons_succ] at h0 h1
    obtain ⟨a, a1, a2, a3⟩ := DataW.trod_int Tryd.underlying3 h0
    obtain ⟨b, b1, b2, b3⟩ := DataW.trod_int Tryd.underlying3 h1
    obtain rfl : c0 = .int .i64 a := by simpa using a1
    obtain rfl : c1 = .int .i64 b := by simpa using b1
    subst a2 b2
    simp only [Prod.mk.injEq] at hx
    exact ⟨a, b, rfl, hx.1, hx.2, a3, b3⟩
theorem shut_pair {H : Type} {enc : TypeId × Value → H} {w : World} {base : Nat} {spare : Nat → Bool} {held : Bool} {a b : Int} (ha : (Lit.int .i64 a).wf = true) (hb : (Lit.int .i64 b).wf = true) :
    DataW.Trod enc Tryd.prog w base spare held 23 (.agg #[.int .i64 a, .int .i64 b]) (.agg [.lit (.int .i64 a), .lit (.int .i64 b)]) [] := by
  refine ⟨2, ?_⟩
  have hc2 : Tryd.prog.cellsOf 23 = 2 := by kernel_rfl
  have hc1 : Tryd.prog.cellsOf 3 = 1 := by kernel_rfl
  have h0 := trod_int_mk (enc := enc) (P := Tryd.prog) (w := w) (base := base) (spare := spare) (held := held) 0 Tryd.underlying3 ha
  have h1 := trod_int_mk (enc := enc) (P := Tryd.prog) (w := w) (base := base) (spare := spare) (held := held) 0 Tryd.underlying3 hb
  have r2 : List.range 2 = [0, 1] := rfl
  unfold DataW.trod
  rw [Tryd.underlying23]
  simp [r2, hc1, hc2, Value.cells, h0, h1]

end Go.Proofs.YtmjhipabciaonaaDoor
