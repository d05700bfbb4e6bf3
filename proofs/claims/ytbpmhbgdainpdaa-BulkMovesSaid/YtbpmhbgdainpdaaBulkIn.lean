/- What the laws of layer 5 take: five bytes and two words in a struct; and the laws' walks over it. -/
import Derived.Test.YtbpmhbgdainpdaaBulkKeeps
import Derived.Test.YtbpmhbgdainpdaaOpenInts
namespace Go.Proofs.Ytbpmhbgdainpdaa
open Go.RowKit

def inK : List IntKind := [.u8, .u8, .u8, .u8, .u8, .u16, .u16]
theorem in_cells : Try.prog.cellsOf 24 = inK.length := by kernel_rfl
theorem in_fields {fs : Array Field} (h : Try.prog.underlying 24 = some (.struct fs)) : IntFields Try.prog fs inK := by
  rw [Try.underlying24] at h
  injection h with h
  injection h with h
  subst h
  refine ⟨rfl, fun i hi => ?_⟩
  match i, hi with
  | 0, _ => exact ⟨_, rfl, rfl, by kernel_rfl, Try.underlying5⟩
  | 1, _ => exact ⟨_, rfl, rfl, by kernel_rfl, Try.underlying5⟩
  | 2, _ => exact ⟨_, rfl, rfl, by kernel_rfl, Try.underlying5⟩
  | 3, _ => exact ⟨_, rfl, rfl, by kernel_rfl, Try.underlying5⟩
  | 4, _ => exact ⟨_, rfl, rfl, by kernel_rfl, Try.underlying5⟩
  | 5, _ => exact ⟨_, rfl, rfl, by kernel_rfl, Try.underlying22⟩
  | 6, _ => exact ⟨_, rfl, rfl, by kernel_rfl, Try.underlying22⟩

theorem in_open (zs : List Int) (hz : zs.length = inK.length) (hw : ∀ i (h1 : i < inK.length) (h2 : i < zs.length), (Lit.int inK[i] zs[i]).wf = true) :
    ∃ a v k b f bc pc : Int, zs = [a, v, k, b, f, bc, pc] ∧ 0 ≤ a ∧ a ≤ 255 ∧ 0 ≤ v ∧ v ≤ 255 ∧ 0 ≤ k ∧ k ≤ 255 ∧ 0 ≤ b ∧ b ≤ 255 ∧ 0 ≤ f ∧ f ≤ 255 ∧ 0 ≤ bc ∧ bc ≤ 65535 ∧ 0 ≤ pc ∧ pc ≤ 65535 := by
  match zs, hz with
  | [a, v, k, b, f, bc, pc], _ =>
    have h0 := u8_bd (hw 0 (by decide) (by simp))
    have h1 := u8_bd (hw 1 (by decide) (by simp))
    have h2 := u8_bd (hw 2 (by decide) (by simp))
    have h3 := u8_bd (hw 3 (by decide) (by simp))
    have h4 := u8_bd (hw 4 (by decide) (by simp))
    have h5 := bounds_u16 (hw 5 (by decide) (by simp))
    have h6 := bounds_u16 (hw 6 (by decide) (by simp))
    simp only [List.getElem_cons_zero, List.getElem_cons_succ] at h0 h1 h2 h3 h4 h5 h6
    exact ⟨a, v, k, b, f, bc, pc, rfl, h0.1, h0.2, h1.1, h1.2, h2.1, h2.2, h3.1, h3.2, h4.1, h4.2, by omega, by omega, by omega, by omega⟩

theorem moves_law (zs : List Int) (hz : zs.length = inK.length) (hw : ∀ i (h1 : i < inK.length) (h2 : i < zs.length), (Lit.int inK[i] zs[i]).wf = true) (w : World) :
    Calls Try.prog 3 #[.agg (intsV inK zs).toArray] w fun e w' => e = .returned (.bool true) ∧ Below w.heap.size w w' := by
  obtain ⟨a, v, k, b, f, bc, pc, rfl, a0, a1, v0, v1, k0, k1, b0, b1, f0, f1, bc0, bc1, pc0, pc1⟩ := in_open zs hz hw
  exact moves_walk a v k b f bc pc a0 a1 v0 v1 k0 k1 b0 b1 f0 f1 bc0 bc1 pc0 pc1 w

theorem ports_law (zs : List Int) (hz : zs.length = inK.length) (hw : ∀ i (h1 : i < inK.length) (h2 : i < zs.length), (Lit.int inK[i] zs[i]).wf = true) (w : World) :
    Calls Try.prog 4 #[.agg (intsV inK zs).toArray] w fun e w' => e = .returned (.bool true) ∧ Below w.heap.size w w' := by
  obtain ⟨a, v, k, b, f, bc, pc, rfl, a0, a1, v0, v1, k0, k1, b0, b1, f0, f1, bc0, bc1, pc0, pc1⟩ := in_open zs hz hw
  exact ports_walk a v k b f bc pc a0 a1 v0 v1 k0 k1 b0 b1 f0 f1 bc0 bc1 pc0 pc1 w

theorem again_law (zs : List Int) (hz : zs.length = inK.length) (hw : ∀ i (h1 : i < inK.length) (h2 : i < zs.length), (Lit.int inK[i] zs[i]).wf = true) (w : World) :
    Calls Try.prog 5 #[.agg (intsV inK zs).toArray] w fun e w' => e = .returned (.bool true) ∧ Below w.heap.size w w' := by
  obtain ⟨a, v, k, b, f, bc, pc, rfl, a0, a1, v0, v1, k0, k1, b0, b1, f0, f1, bc0, bc1, pc0, pc1⟩ := in_open zs hz hw
  exact again_walk a v k b f bc pc a0 a1 v0 v1 k0 k1 b0 b1 f0 f1 bc0 bc1 pc0 pc1 w

theorem keeps_law (zs : List Int) (hz : zs.length = inK.length) (hw : ∀ i (h1 : i < inK.length) (h2 : i < zs.length), (Lit.int inK[i] zs[i]).wf = true) (w : World) :
    Calls Try.prog 6 #[.agg (intsV inK zs).toArray] w fun e w' => e = .returned (.bool true) ∧ Below w.heap.size w w' := by
  obtain ⟨a, v, k, b, f, bc, pc, rfl, a0, a1, v0, v1, k0, k1, b0, b1, f0, f1, bc0, bc1, pc0, pc1⟩ := in_open zs hz hw
  exact keeps_walk a v k b f bc pc a0 a1 v0 v1 k0 k1 b0 b1 f0 f1 bc0 bc1 pc0 pc1 w

end Go.Proofs.Ytbpmhbgdainpdaa
