/- A struct of integers and bools of one cell each, and an array of two integers, as arguments: opened to their cells and shut again. No program is named here. -/
import Derived.ProofKit
import Derived.OpenShut
import Derived.ChangeArms
import Derived.ChangeSame
import Derived.ChangeOld
import Derived.Below
namespace Go.Proofs.YtkjibnnoeceaeaaDoor
open Go.ChangeShapes Go.WideShapes Go.ChangeAt Go.RowKit

def kindD : Option IntKind → TypeDesc
  | some k => .int k
  | none => .bool
def MixOk : Option IntKind → Value → Prop
  | some k, .int k' n => k' = k ∧ (Lit.int k n).wf = true
  | none, .bool _ => True
  | _, _ => False
def mixD {H : Type} : Value → DataW H
  | .int k n => .lit (.int k n)
  | .bool b => .lit (.bool b)
  | _ => .nil
/-- The fields are integers and bools of these kinds, one cell each, in order. -/
def MixFields (P : Program) (fs : Array Field) (ks : List (Option IntKind)) : Prop :=
  fs.size = ks.length ∧ ∀ i (h : i < ks.length), ∃ f, fs[i]? = some f ∧ f.offset = i ∧ P.cellsOf f.type = 1 ∧ P.underlying f.type = some (kindD ks[i])

theorem trod_mix {H : Type} {enc : TypeId × Value → H} {P : Program} {w : World} {base : Nat} {spare : Nat → Bool} {held : Bool} {fuel : Nat} {t : TypeId} {c : Value} {x : DataW H × List MemPlace} {k : Option IntKind}
    (ht : P.underlying t = some (kindD k)) (h : DataW.trod enc P w base spare held fuel t [c] = some x) : MixOk k c ∧ x = (mixD c, []) := by
  cases k with
  | some k =>
    obtain ⟨z, z1, z2, z3⟩ := DataW.trod_int ht h
    have z1 : c = .int k z := by simpa using z1
    subst z1
    exact ⟨⟨rfl, z3⟩, z2⟩
  | none =>
    obtain ⟨z, z1, z2⟩ := DataW.trod_bool ht h
    have z1 : c = .bool z := by simpa using z1
    subst z1
    exact ⟨trivial, z2⟩
theorem trod_mix_mk {H : Type} {enc : TypeId × Value → H} {P : Program} {w : World} {base : Nat} {spare : Nat → Bool} {held : Bool} {t : TypeId} {c : Value} {k : Option IntKind}
    (ht : P.underlying t = some (kindD k)) (h : MixOk k c) : DataW.trod enc P w base spare held 1 t [c] = some (mixD c, []) := by
  match k, c, h with
  | some k, .int k' n, ⟨e, hw⟩ =>
    subst e
    exact trod_int_mk 0 ht hw
  | none, .bool b, _ =>
    unfold DataW.trod
    rw [ht]
    rfl

theorem mapM_at {α β : Type} (g : α → Option β) : ∀ (l : List α) (xs : List β), l.length = xs.length → (∀ i (h1 : i < l.length) (h2 : i < xs.length), g l[i] = some xs[i]) → l.mapM g = some xs
  | [], [], _, _ => rfl
  | a :: l, x :: xs, hl, h => by
    have h0 := h 0 (by simp) (by simp)
    have hr := mapM_at g l xs (by simpa using hl) (fun i h1 h2 => by have := h (i + 1) (by simp; omega) (by simp; omega); simpa using this)
    simp only [List.getElem_cons_zero] at h0
    rw [List.mapM_cons, h0, hr]
    rfl
theorem mixD_flat {H : Type} (vs : List Value) : (vs.map fun v => (mixD (H := H) v, ([] : List MemPlace))).flatMap (·.2) = [] := by
  induction vs with
  | nil => rfl
  | cons v vs ih => simp
theorem mixD_fst {H : Type} (vs : List Value) : (vs.map fun v => (mixD (H := H) v, ([] : List MemPlace))).map (·.1) = vs.map mixD := by
  simp

theorem open_mix {H : Type} {enc : TypeId × Value → H} {P : Program} {w : World} {base b0 : Nat} {spare : Nat → Bool} {held : Bool} {r : Reach} {t : TypeId} {fs : Array Field} {ks : List (Option IntKind)} {v : Value} {d : DataW H} {p : List MemPlace}
    (ht : P.underlying t = some (.struct fs)) (hC : P.cellsOf t = ks.length) (hF : MixFields P fs ks) (hv : Value.okWide P w r b0 t v) (h : DataW.Trod enc P w base spare held t v d p) :
    ∃ vs : List Value, vs.length = ks.length ∧ v = .agg vs.toArray ∧ d = .agg (vs.map mixD) ∧ p = [] ∧ ∀ i (h1 : i < ks.length) (h2 : i < vs.length), MixOk ks[i] vs[i] := by
  obtain ⟨cs, rfl, hsz⟩ := okWide_struct ht hv
  obtain ⟨fuel, hf⟩ := h
  obtain ⟨xs, n, _, hx, hl, hlen, hat⟩ := DataW.trod_struct ht hf
  have hcs : (Value.agg cs).cells = cs := rfl
  rw [hcs] at hat hl
  obtain ⟨hn, hk⟩ := hF
  have key : ∀ i (h : i < ks.length) (hc : i < cs.toList.length) (hxx : i < xs.length), MixOk ks[i] cs.toList[i] ∧ xs[i] = (mixD cs.toList[i], []) := by
    intro i hi hc hxx
    obtain ⟨f, e1, e2, e3, e4⟩ := hk i hi
    have h1 := hat i f e1
    rw [e2, e3, List.drop_eq_getElem_cons hc, List.getElem?_eq_getElem hxx] at h1
    exact trod_mix e4 h1
  have hcl : cs.toList.length = ks.length := by rw [hl, hC]
  have hxl : xs.length = ks.length := by rw [hlen, hn]
  have e : xs = cs.toList.map fun v => (mixD v, []) := by
    apply List.ext_getElem
    · simp only [List.length_map]; omega
    · intro i h1 h2
      rw [List.getElem_map]
      exact (key i (by omega) (by omega) h1).2
  refine ⟨cs.toList, hcl, by simp, ?_, ?_, fun i h1 h2 => (key i h1 h2 (by omega)).1⟩
  · have hd := congrArg Prod.fst hx
    rw [e, mixD_fst] at hd
    exact hd
  · have hp := congrArg Prod.snd hx
    rw [e, mixD_flat] at hp
    exact hp

theorem shut_mix {H : Type} {enc : TypeId × Value → H} {P : Program} {w : World} {base : Nat} {spare : Nat → Bool} {held : Bool} {t : TypeId} {fs : Array Field} {ks : List (Option IntKind)} {vs : List Value}
    (ht : P.underlying t = some (.struct fs)) (hC : P.cellsOf t = ks.length) (hF : MixFields P fs ks) (hz : vs.length = ks.length) (hw : ∀ i (h1 : i < ks.length) (h2 : i < vs.length), MixOk ks[i] vs[i]) :
    DataW.Trod enc P w base spare held t (.agg vs.toArray) (.agg (vs.map mixD)) [] := by
  have hm := trod_struct_mk (enc := enc) (w := w) (base := base) (spare := spare) (held := held) (n := 1) (cs := vs) (xs := vs.map fun v => (mixD v, [])) ht (by rw [hz, hC]) (by
    obtain ⟨hn, hk⟩ := hF
    apply mapM_at
    · simp [hz, hn]
    · intro i h1 h2
      have hi : i < ks.length := by simp only [Array.length_toList] at h1; omega
      obtain ⟨f, e1, e2, e3, e4⟩ := hk i hi
      have ef : fs.toList[i] = f := by
        have := (Array.getElem?_eq_some_iff.1 e1).2
        simpa using this
      have hv : i < vs.length := by omega
      rw [ef, e2, e3, List.drop_eq_getElem_cons hv]
      simp only [List.take_succ_cons, List.take_zero, List.getElem_map]
      exact trod_mix_mk e4 (hw i hi hv))
  rw [mixD_flat, mixD_fst] at hm
  exact ⟨2, hm⟩

end Go.Proofs.YtkjibnnoeceaeaaDoor
