/- A struct of integers of one cell each, as an argument: opened to its numbers and shut again. No program is named here. -/
import Derived.ProofKit
import Derived.OpenShut
import Derived.ChangeSame
import Derived.ChangeOld
import Derived.Below
namespace Go.Proofs.Ytbpmhbgdainpdaa
open Go.ChangeShapes Go.WideShapes Go.ChangeAt Go.RowKit

/-- The fields are integers of these kinds, one cell each, in order. -/
def IntFields (P : Program) (fs : Array Field) (ks : List IntKind) : Prop :=
  fs.size = ks.length ∧ ∀ i (h : i < ks.length), ∃ f, fs[i]? = some f ∧ f.offset = i ∧ P.cellsOf f.type = 1 ∧ P.underlying f.type = some (.int ks[i])
def intsV (ks : List IntKind) (zs : List Int) : List Value := List.zipWith Value.int ks zs
def intsD {H : Type} (ks : List IntKind) (zs : List Int) : List (DataW H × List MemPlace) := List.zipWith (fun k z => (.lit (.int k z), [])) ks zs

theorem mapM_at {α β : Type} (g : α → Option β) : ∀ (l : List α) (xs : List β), l.length = xs.length → (∀ i (h1 : i < l.length) (h2 : i < xs.length), g l[i] = some xs[i]) → l.mapM g = some xs
  | [], [], _, _ => rfl
  | a :: l, x :: xs, hl, h => by
    have h0 := h 0 (by simp) (by simp)
    have hr := mapM_at g l xs (by simpa using hl) (fun i h1 h2 => by have := h (i + 1) (by simp; omega) (by simp; omega); simpa using this)
    simp only [List.getElem_cons_zero] at h0
    rw [List.mapM_cons, h0, hr]
    rfl
theorem intsD_flat {H : Type} : ∀ (ks : List IntKind) (zs : List Int), (intsD (H := H) ks zs).flatMap (·.2) = []
  | [], _ => rfl
  | _ :: _, [] => rfl
  | _ :: ks, _ :: zs => by simpa [intsD] using intsD_flat (H := H) ks zs

theorem open_intFields {H : Type} {enc : TypeId × Value → H} {P : Program} {w : World} {base b0 : Nat} {spare : Nat → Bool} {held : Bool} {r : Reach} {t : TypeId} {fs : Array Field} {ks : List IntKind} {v : Value} {d : DataW H} {p : List MemPlace}
    (ht : P.underlying t = some (.struct fs)) (hC : P.cellsOf t = ks.length) (hF : IntFields P fs ks) (hv : Value.okWide P w r b0 t v) (h : DataW.Trod enc P w base spare held t v d p) :
    ∃ zs : List Int, zs.length = ks.length ∧ v = .agg (intsV ks zs).toArray ∧ d = .agg ((intsD ks zs).map (·.1)) ∧ p = [] ∧ ∀ i (h1 : i < ks.length) (h2 : i < zs.length), (Lit.int ks[i] zs[i]).wf = true := by
  obtain ⟨cs, rfl, hsz⟩ := okWide_struct ht hv
  obtain ⟨fuel, hf⟩ := h
  obtain ⟨xs, n, _, hx, hl, hlen, hat⟩ := DataW.trod_struct ht hf
  have hcs : (Value.agg cs).cells = cs := rfl
  rw [hcs] at hat hl
  obtain ⟨hn, hk⟩ := hF
  have key : ∀ i (h : i < ks.length) (hc : i < cs.toList.length) (hxx : i < xs.length), cs.toList[i] = .int ks[i] (intOf cs.toList[i]) ∧ xs[i] = (.lit (.int ks[i] (intOf cs.toList[i])), []) ∧ (Lit.int ks[i] (intOf cs.toList[i])).wf = true := by
    intro i hi hc hxx
    obtain ⟨f, e1, e2, e3, e4⟩ := hk i hi
    have h1 := hat i f e1
    rw [e2, e3, List.drop_eq_getElem_cons hc, List.getElem?_eq_getElem hxx] at h1
    obtain ⟨z, z1, z2, z3⟩ := DataW.trod_int e4 h1
    have z1 : cs.toList[i] = .int ks[i] z := by simpa using z1
    rw [z1]
    exact ⟨rfl, z2, z3⟩
  have hcl : cs.toList.length = ks.length := by rw [hl, hC]
  have hxl : xs.length = ks.length := by rw [hlen, hn]
  refine ⟨cs.toList.map intOf, by simpa using hcl, ?_, ?_, ?_, ?_⟩
  · congr 1
    apply Array.toList_inj.1
    apply List.ext_getElem
    · simp [intsV, ← hcl]
    · intro i h1 h2
      have := (key i (by omega) h1 (by omega)).1
      simp only [intsV, List.getElem_zipWith, List.getElem_map]
      exact this
  · have hd := congrArg Prod.fst hx
    have e : xs = intsD ks (cs.toList.map intOf) := by
      apply List.ext_getElem
      · simp only [intsD, List.length_zipWith, List.length_map]; omega
      · intro i h1 h2
        simp only [intsD, List.getElem_zipWith, List.getElem_map]
        exact (key i (by omega) (by omega) h1).2.1
    rw [← e]; exact hd
  · have hp := congrArg Prod.snd hx
    have e : xs = intsD ks (cs.toList.map intOf) := by
      apply List.ext_getElem
      · simp only [intsD, List.length_zipWith, List.length_map]; omega
      · intro i h1 h2
        simp only [intsD, List.getElem_zipWith, List.getElem_map]
        exact (key i (by omega) (by omega) h1).2.1
    rw [e, intsD_flat] at hp; exact hp
  · intro i h1 h2
    rw [List.getElem_map]
    exact (key i h1 (by omega) (by omega)).2.2

theorem shut_intFields {H : Type} {enc : TypeId × Value → H} {P : Program} {w : World} {base : Nat} {spare : Nat → Bool} {held : Bool} {t : TypeId} {fs : Array Field} {ks : List IntKind} {zs : List Int}
    (ht : P.underlying t = some (.struct fs)) (hC : P.cellsOf t = ks.length) (hF : IntFields P fs ks) (hz : zs.length = ks.length) (hw : ∀ i (h1 : i < ks.length) (h2 : i < zs.length), (Lit.int ks[i] zs[i]).wf = true) :
    DataW.Trod enc P w base spare held t (.agg (intsV ks zs).toArray) (.agg ((intsD ks zs).map (·.1))) [] := by
  have hm := trod_struct_mk (enc := enc) (w := w) (base := base) (spare := spare) (held := held) (n := 1) (cs := intsV ks zs) (xs := intsD ks zs) ht (by simp [intsV, hz, hC]) (by
    obtain ⟨hn, hk⟩ := hF
    apply mapM_at
    · simp [intsD, hz, hn]
    · intro i h1 h2
      have hi : i < ks.length := by simp only [Array.length_toList] at h1; omega
      obtain ⟨f, e1, e2, e3, e4⟩ := hk i hi
      have ef : fs.toList[i] = f := by
        have := (Array.getElem?_eq_some_iff.1 e1).2
        simpa using this
      rw [ef, e2, e3, List.drop_eq_getElem_cons (by simp [intsV, hz]; exact hi)]
      simp only [List.take_succ_cons, List.take_zero, intsV, intsD, List.getElem_zipWith]
      exact trod_int_mk 0 e4 (hw i hi (by omega)))
  rw [intsD_flat] at hm
  exact ⟨2, hm⟩

end Go.Proofs.Ytbpmhbgdainpdaa
