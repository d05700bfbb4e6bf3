/- What the laws of layer 6 take: registers and two numbers by value, opened and shut; the table that the row lists. -/
import Derived.Test.YteffjidbcdnbhaaDoorHexWalk
import Derived.Test.YteffjidbcdnbhaaDoorRegMath
import Derived.Test.YteffjidbcdnbhaaDoorRows
import Derived.ProofKit
import Derived.OpenShut
import Derived.ChangeArms
import Derived.ChangeSame
import Derived.ChangeOld
import Derived.Lib.LaidTab
import Derived.Stop.LaidErr
import Derived.LaidMore
import Derived.MakeChecks
import Derived.Test.YteffjidbcdnbhaaDoorOpenMix
namespace Go.Proofs.YteffjidbcdnbhaaDoor
open Go.ChangeShapes Go.WideShapes Go.ChangeAt Go.RowKit
set_option linter.unusedVariables false

theorem own : ownKnob Tryd.prog.godebug = none := by kernel_rfl

/-- The table's cell, out of what a row lists. -/
theorem tab_of_laid {W : World} (h : laidMetH Tryd.prog Rows.regsNilsRow.laid W) : Tab W := by
  rw [MakeChecks.laidMetH_plain _ _ _ (by kernel_rfl)] at h
  have h2 : laidMet Tryd.prog [("math/bits.deBruijn64tab", Rows.laid_math_bits_deBruijn64tab), ("internal/strconv.uint64pow10", Rows.laid_internal_strconv_uint64pow10)] W := laidMet.tail h
  have g : Tryd.prog.globalNamed "math/bits.deBruijn64tab" = some 3 := by kernel_rfl
  have t := Lib.tabIs_of_head (P := Tryd.prog) (W := W) (name := "math/bits.deBruijn64tab") (k := .u8) (zs := [0, 1, 56, 2, 57, 49, 28, 3, 61, 58, 42, 50, 38, 29, 17, 4, 62, 47, 59, 36, 45, 43, 51, 22, 53, 39, 33, 30, 24, 18, 12, 5, 63, 55, 48, 27, 60, 41, 37, 16, 46, 35, 44, 21, 52, 32, 23, 11, 54, 26, 40, 15, 34, 20, 31, 10, 25, 14, 19, 9, 13, 8, 7, 6]) (rest := [("internal/strconv.uint64pow10", Rows.laid_internal_strconv_uint64pow10)]) g (by kernel_rfl) Tryd.underlying100 Tryd.underlying5 (by kernel_rfl) (by kernel_rfl) h2
  have c : W.cell? ⟨3, 15, none⟩ = some (.int .u8 4) := t.cell g 15 (by decide)
  exact ⟨c, World.block_lt_of_cell? W _ c⟩

def regK : List (Option IntKind) := [some .u8, some .u8, some .u8, some .u8, some .u8, some .u8, some .u8, some .u8, some .u8, some .u8, some .u8, some .u8, some .u8, some .u8, some .u8, some .u8, some .u8, some .u8, some .u8, some .u16, some .u16, some .u16, some .u16, some .u16, none, none, none, none, some .u8, some .u8]
theorem reg_cells : Tryd.prog.cellsOf 24 = regK.length := by kernel_rfl
theorem reg_fields {fs : Array Field} (h : Tryd.prog.underlying 24 = some (.struct fs)) : MixFields Tryd.prog fs regK := by
  rw [Tryd.underlying24] at h
  injection h with h
  injection h with h
  subst h
  have c8 : Tryd.prog.cellsOf 5 = 1 := by kernel_rfl
  have c16 : Tryd.prog.cellsOf 22 = 1 := by kernel_rfl
  have cb : Tryd.prog.cellsOf 4 = 1 := by kernel_rfl
  refine ⟨rfl, fun i hi => ?_⟩
  match i, hi with
  | 0, _ => exact ⟨_, rfl, rfl, c8, Tryd.underlying5⟩
  | 1, _ => exact ⟨_, rfl, rfl, c8, Tryd.underlying5⟩
  | 2, _ => exact ⟨_, rfl, rfl, c8, Tryd.underlying5⟩
  | 3, _ => exact ⟨_, rfl, rfl, c8, Tryd.underlying5⟩
  | 4, _ => exact ⟨_, rfl, rfl, c8, Tryd.underlying5⟩
  | 5, _ => exact ⟨_, rfl, rfl, c8, Tryd.underlying5⟩
  | 6, _ => exact ⟨_, rfl, rfl, c8, Tryd.underlying5⟩
  | 7, _ => exact ⟨_, rfl, rfl, c8, Tryd.underlying5⟩
  | 8, _ => exact ⟨_, rfl, rfl, c8, Tryd.underlying5⟩
  | 9, _ => exact ⟨_, rfl, rfl, c8, Tryd.underlying5⟩
  | 10, _ => exact ⟨_, rfl, rfl, c8, Tryd.underlying5⟩
  | 11, _ => exact ⟨_, rfl, rfl, c8, Tryd.underlying5⟩
  | 12, _ => exact ⟨_, rfl, rfl, c8, Tryd.underlying5⟩
  | 13, _ => exact ⟨_, rfl, rfl, c8, Tryd.underlying5⟩
  | 14, _ => exact ⟨_, rfl, rfl, c8, Tryd.underlying5⟩
  | 15, _ => exact ⟨_, rfl, rfl, c8, Tryd.underlying5⟩
  | 16, _ => exact ⟨_, rfl, rfl, c8, Tryd.underlying5⟩
  | 17, _ => exact ⟨_, rfl, rfl, c8, Tryd.underlying5⟩
  | 18, _ => exact ⟨_, rfl, rfl, c8, Tryd.underlying5⟩
  | 19, _ => exact ⟨_, rfl, rfl, c16, Tryd.underlying22⟩
  | 20, _ => exact ⟨_, rfl, rfl, c16, Tryd.underlying22⟩
  | 21, _ => exact ⟨_, rfl, rfl, c16, Tryd.underlying22⟩
  | 22, _ => exact ⟨_, rfl, rfl, c16, Tryd.underlying22⟩
  | 23, _ => exact ⟨_, rfl, rfl, c16, Tryd.underlying22⟩
  | 24, _ => exact ⟨_, rfl, rfl, cb, Tryd.underlying4⟩
  | 25, _ => exact ⟨_, rfl, rfl, cb, Tryd.underlying4⟩
  | 26, _ => exact ⟨_, rfl, rfl, cb, Tryd.underlying4⟩
  | 27, _ => exact ⟨_, rfl, rfl, cb, Tryd.underlying4⟩
  | 28, _ => exact ⟨_, rfl, rfl, c8, Tryd.underlying5⟩
  | 29, _ => exact ⟨_, rfl, rfl, c8, Tryd.underlying5⟩
  | n + 30, hi => exact absurd (show n + 30 < 30 from hi) (by omega)
theorem mix_u8 {v : Value} (h : MixOk (some .u8) v) : ∃ n, v = .int .u8 n ∧ B8 n := by
  match v, h with
  | .int k' n, ⟨e, hw⟩ => subst e; exact ⟨n, rfl, u8_bd hw⟩
theorem mix_u16 {v : Value} (h : MixOk (some .u16) v) : ∃ n, v = .int .u16 n ∧ B16 n := by
  match v, h with
  | .int k' n, ⟨e, hw⟩ => subst e; have := bounds_u16 hw; exact ⟨n, rfl, by omega, by omega⟩
theorem mix_bool {v : Value} (h : MixOk none v) : ∃ b, v = .bool b := by
  match v, h with
  | .bool b, _ => exact ⟨b, rfl⟩
theorem wf_u8 {n : Int} (h : B8 n) : (Lit.int .u8 n).wf = true := WalkArith.wf_u8 h
theorem wf_u16 {n : Int} (h : B16 n) : (Lit.int .u16 n).wf = true := WalkArith.wf_u16 h
theorem regs_of (vs : List Value) (hl : vs.length = regK.length) (hw : ∀ i (h1 : i < regK.length) (h2 : i < vs.length), MixOk regK[i] vs[i]) : ∃ x : Rg, vs = x.cells ∧ x.Ok := by
  match vs, hl with
  | [v0, v1, v2, v3, v4, v5, v6, v7, v8, v9, v10, v11, v12, v13, v14, v15, v16, v17, v18, v19, v20, v21, v22, v23, v24, v25, v26, v27, v28, v29], _ =>
    obtain ⟨x0, rfl, o0⟩ := mix_u8 (hw 0 (by decide) (by simp))
    obtain ⟨x1, rfl, o1⟩ := mix_u8 (hw 1 (by decide) (by simp))
    obtain ⟨x2, rfl, o2⟩ := mix_u8 (hw 2 (by decide) (by simp))
    obtain ⟨x3, rfl, o3⟩ := mix_u8 (hw 3 (by decide) (by simp))
    obtain ⟨x4, rfl, o4⟩ := mix_u8 (hw 4 (by decide) (by simp))
    obtain ⟨x5, rfl, o5⟩ := mix_u8 (hw 5 (by decide) (by simp))
    obtain ⟨x6, rfl, o6⟩ := mix_u8 (hw 6 (by decide) (by simp))
    obtain ⟨x7, rfl, o7⟩ := mix_u8 (hw 7 (by decide) (by simp))
    obtain ⟨x8, rfl, o8⟩ := mix_u8 (hw 8 (by decide) (by simp))
    obtain ⟨x9, rfl, o9⟩ := mix_u8 (hw 9 (by decide) (by simp))
    obtain ⟨x10, rfl, o10⟩ := mix_u8 (hw 10 (by decide) (by simp))
    obtain ⟨x11, rfl, o11⟩ := mix_u8 (hw 11 (by decide) (by simp))
    obtain ⟨x12, rfl, o12⟩ := mix_u8 (hw 12 (by decide) (by simp))
    obtain ⟨x13, rfl, o13⟩ := mix_u8 (hw 13 (by decide) (by simp))
    obtain ⟨x14, rfl, o14⟩ := mix_u8 (hw 14 (by decide) (by simp))
    obtain ⟨x15, rfl, o15⟩ := mix_u8 (hw 15 (by decide) (by simp))
    obtain ⟨x16, rfl, o16⟩ := mix_u8 (hw 16 (by decide) (by simp))
    obtain ⟨x17, rfl, o17⟩ := mix_u8 (hw 17 (by decide) (by simp))
    obtain ⟨x18, rfl, o18⟩ := mix_u8 (hw 18 (by decide) (by simp))
    obtain ⟨x19, rfl, o19⟩ := mix_u16 (hw 19 (by decide) (by simp))
    obtain ⟨x20, rfl, o20⟩ := mix_u16 (hw 20 (by decide) (by simp))
    obtain ⟨x21, rfl, o21⟩ := mix_u16 (hw 21 (by decide) (by simp))
    obtain ⟨x22, rfl, o22⟩ := mix_u16 (hw 22 (by decide) (by simp))
    obtain ⟨x23, rfl, o23⟩ := mix_u16 (hw 23 (by decide) (by simp))
    obtain ⟨x24, rfl⟩ := mix_bool (hw 24 (by decide) (by simp))
    obtain ⟨x25, rfl⟩ := mix_bool (hw 25 (by decide) (by simp))
    obtain ⟨x26, rfl⟩ := mix_bool (hw 26 (by decide) (by simp))
    obtain ⟨x27, rfl⟩ := mix_bool (hw 27 (by decide) (by simp))
    obtain ⟨x28, rfl, o28⟩ := mix_u8 (hw 28 (by decide) (by simp))
    obtain ⟨x29, rfl, o29⟩ := mix_u8 (hw 29 (by decide) (by simp))
    exact ⟨⟨x0, x1, x2, x3, x4, x5, x6, x7, x8, x9, x10, x11, x12, x13, x14, x15, x16, x17, x18, x19, x20, x21, x22, x23, x24, x25, x26, x27, x28, x29⟩, rfl, ⟨o0, o1, o2, o3, o4, o5, o6, o7, o8, o9, o10, o11, o12, o13, o14, o15, o16, o17, o18, o19, o20, o21, o22, o23, o28, o29⟩⟩
theorem regs_mix (x : Rg) (ok : x.Ok) : ∀ i (h1 : i < regK.length) (h2 : i < x.cells.length), MixOk regK[i] x.cells[i] := by
  intro i h1 h2
  match i, h1, h2 with
  | 0, _, _ => exact ⟨rfl, wf_u8 ok.a⟩
  | 1, _, _ => exact ⟨rfl, wf_u8 ok.f⟩
  | 2, _, _ => exact ⟨rfl, wf_u8 ok.b⟩
  | 3, _, _ => exact ⟨rfl, wf_u8 ok.c⟩
  | 4, _, _ => exact ⟨rfl, wf_u8 ok.d⟩
  | 5, _, _ => exact ⟨rfl, wf_u8 ok.e⟩
  | 6, _, _ => exact ⟨rfl, wf_u8 ok.h⟩
  | 7, _, _ => exact ⟨rfl, wf_u8 ok.l⟩
  | 8, _, _ => exact ⟨rfl, wf_u8 ok.a2⟩
  | 9, _, _ => exact ⟨rfl, wf_u8 ok.f2⟩
  | 10, _, _ => exact ⟨rfl, wf_u8 ok.b2⟩
  | 11, _, _ => exact ⟨rfl, wf_u8 ok.c2⟩
  | 12, _, _ => exact ⟨rfl, wf_u8 ok.d2⟩
  | 13, _, _ => exact ⟨rfl, wf_u8 ok.e2⟩
  | 14, _, _ => exact ⟨rfl, wf_u8 ok.h2⟩
  | 15, _, _ => exact ⟨rfl, wf_u8 ok.l2⟩
  | 16, _, _ => exact ⟨rfl, wf_u8 ok.i⟩
  | 17, _, _ => exact ⟨rfl, wf_u8 ok.r⟩
  | 18, _, _ => exact ⟨rfl, wf_u8 ok.q⟩
  | 19, _, _ => exact ⟨rfl, wf_u16 ok.ix⟩
  | 20, _, _ => exact ⟨rfl, wf_u16 ok.iy⟩
  | 21, _, _ => exact ⟨rfl, wf_u16 ok.sp⟩
  | 22, _, _ => exact ⟨rfl, wf_u16 ok.pc⟩
  | 23, _, _ => exact ⟨rfl, wf_u16 ok.wz⟩
  | 24, _, _ => exact trivial
  | 25, _, _ => exact trivial
  | 26, _, _ => exact trivial
  | 27, _, _ => exact trivial
  | 28, _, _ => exact ⟨rfl, wf_u8 ok.im⟩
  | 29, _, _ => exact ⟨rfl, wf_u8 ok.pre⟩
  | n + 30, h1, _ => exact absurd (show n + 30 < 30 from h1) (by omega)
theorem open_regs {H : Type} {enc : TypeId × Value → H} {w : World} {base b0 : Nat} {spare : Nat → Bool} {held : Bool} {r : Reach} {v : Value} {d : DataW H} {p : List MemPlace}
    (hv : Value.okWide Tryd.prog w r b0 24 v) (h : DataW.Trod enc Tryd.prog w base spare held 24 v d p) : ∃ x : Rg, v = .agg x.cells.toArray ∧ d = .agg (x.cells.map mixD) ∧ p = [] ∧ x.Ok := by
  obtain ⟨vs, hl, rfl, rfl, rfl, hw⟩ := open_mix Tryd.underlying24 reg_cells (reg_fields Tryd.underlying24) hv h
  obtain ⟨x, rfl, ok⟩ := regs_of vs hl hw
  exact ⟨x, rfl, rfl, rfl, ok⟩
theorem shut_regs {H : Type} {enc : TypeId × Value → H} {w : World} {base : Nat} {spare : Nat → Bool} {held : Bool} {x : Rg} (ok : x.Ok) : DataW.Trod enc Tryd.prog w base spare held 24 (.agg x.cells.toArray) (.agg (x.cells.map mixD)) [] :=
  shut_mix Tryd.underlying24 reg_cells (reg_fields Tryd.underlying24) rfl (regs_mix x ok)

theorem open_pair {H : Type} {enc : TypeId × Value → H} {w : World} {base b0 : Nat} {spare : Nat → Bool} {held : Bool} {r : Reach} {v : Value} {d : DataW H} {p : List MemPlace}
    (hv : Value.okWide Tryd.prog w r b0 25 v) (h : DataW.Trod enc Tryd.prog w base spare held 25 v d p) : ∃ a b : Int, v = .agg #[.int .i64 a, .int .i64 b] ∧ d = .agg [.lit (.int .i64 a), .lit (.int .i64 b)] ∧ p = [] ∧ (Lit.int .i64 a).wf = true ∧ (Lit.int .i64 b).wf = true := by
  have hc2 : Tryd.prog.cellsOf 25 = 2 := by kernel_rfl
  have hc1 : Tryd.prog.cellsOf 3 = 1 := by kernel_rfl
  obtain ⟨cs, rfl, hsz⟩ : ∃ cs, v = .agg cs ∧ cs.size = Tryd.prog.cellsOf 25 := by
    simp only [Value.okWide, Tryd.underlying25] at hv
    obtain ⟨cs, h1, h2, _⟩ := hv
    exact ⟨cs, h1, h2⟩
  obtain ⟨fuel, hf⟩ := h
  obtain ⟨xs, m, _, hx, hl, hlen, hat⟩ := DataW.trod_array Tryd.underlying25 hf
  have hcs : (Value.agg cs).cells = cs := rfl
  rw [hcs] at hat hl
  rw [hc2] at hl
  rw [hc1] at hat
  obtain ⟨l⟩ := cs
  match l, hl, xs, hlen, hat, hx with
  | [c0, c1], _, [y0, y1], _, hat, hx =>
    have h0 := hat 0 (by decide)
    have h1 := hat 1 (by decide)
    simp only [Nat.zero_mul, List.drop_zero, List.take_succ_cons, List.take_zero, List.getElem?_cons_zero, Nat.one_mul, List.drop_succ_cons, List.getElem?_cons_succ] at h0 h1
    obtain ⟨a, a1, a2, a3⟩ := DataW.trod_int Tryd.underlying3 h0
    obtain ⟨b, b1, b2, b3⟩ := DataW.trod_int Tryd.underlying3 h1
    obtain rfl : c0 = .int .i64 a := by simpa using a1
    obtain rfl : c1 = .int .i64 b := by simpa using b1
    subst a2 b2
    simp only [Prod.mk.injEq] at hx
    exact ⟨a, b, rfl, hx.1, hx.2, a3, b3⟩
theorem shut_pair {H : Type} {enc : TypeId × Value → H} {w : World} {base : Nat} {spare : Nat → Bool} {held : Bool} {a b : Int} (ha : (Lit.int .i64 a).wf = true) (hb : (Lit.int .i64 b).wf = true) :
    DataW.Trod enc Tryd.prog w base spare held 25 (.agg #[.int .i64 a, .int .i64 b]) (.agg [.lit (.int .i64 a), .lit (.int .i64 b)]) [] := by
  refine ⟨2, ?_⟩
  have hc2 : Tryd.prog.cellsOf 25 = 2 := by kernel_rfl
  have hc1 : Tryd.prog.cellsOf 3 = 1 := by kernel_rfl
  have h0 := trod_int_mk (enc := enc) (P := Tryd.prog) (w := w) (base := base) (spare := spare) (held := held) 0 Tryd.underlying3 ha
  have h1 := trod_int_mk (enc := enc) (P := Tryd.prog) (w := w) (base := base) (spare := spare) (held := held) 0 Tryd.underlying3 hb
  have r2 : List.range 2 = [0, 1] := rfl
  unfold DataW.trod
  rw [Tryd.underlying25]
  simp [r2, hc1, hc2, Value.cells, h0, h1]

end Go.Proofs.YteffjidbcdnbhaaDoor
