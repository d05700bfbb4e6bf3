/- All of the registers read at once, and held against each other, as the walk meets it. -/
import Derived.Test.YteffjidbcdnbhaaDoorRegRefPut
namespace Go.Proofs.YteffjidbcdnbhaaDoor
open Go.RowKit

def regLoad (v : Value) : Sem Value := Instr.loadAt 24 v
theorem load_as (v : Value) : Instr.loadAt 24 v = regLoad v := rfl
def regEql (a b : Array Value) : Sem Value := binOp .eql 24 (.agg a) (.agg b)
theorem eql_as (a b : Array Value) : binOp .eql 24 (.agg a) (.agg b) = regEql a b := rfl

theorem run_regLoad (u : World) (b : Nat) (x : Rg) (h : u.rangeAt b 0 x.cells) : (regLoad (.pointer (some ⟨b, 0, none⟩))).run Tryd.prog u = .ok (.agg x.cells.toArray) u :=
  run_loadAt_mid u b 0 24 x.cells _ h Tryd.underlying24 rfl regs_size

/-- Two structs held against each other field by field. -/
theorem run_eqFields {P : Program} (w : World) (d : Nat) (xs ys : Array Value) : ∀ (fs : List Field) (us vs : List Value), us.length = fs.length → vs.length = fs.length →
    (∀ (j : Nat) (f : Field) (u v : Value), fs[j]? = some f → us[j]? = some u → vs[j]? = some v → f.name ≠ "_" ∧ (part f.type xs f.offset).run P w = .ok u w ∧ (part f.type ys f.offset).run P w = .ok v w ∧ (Op.equalIn d f.type u v).run P w = .ok (eqV u v) w) →
    (Op.eqFields d xs ys fs).run P w = .ok (eqL us vs) w
  | [], [], [], _, _, _ => by simp [Op.eqFields, eqL]
  | f :: fs, u :: us, v :: vs, hu, hv, h => by
    obtain ⟨h1, h2, h3, h4⟩ := h 0 f u v rfl rfl rfl
    have ih := run_eqFields w d xs ys fs us vs (by simpa using hu) (by simpa using hv) (fun j f u v a b c => h (j + 1) f u v a b c)
    unfold Op.eqFields
    rw [if_pos h1]
    simp only [Sem.run_bind, h2, h3, h4, Result.andThen_ok]
    cases e : eqV u v
    · simp [eqL, e]
    · simp [eqL, e, ih]
  | [], _ :: _, _, h, _, _ => by simp at h
  | [], [], _ :: _, _, h, _ => by simp at h
  | _ :: _, [], _, h, _, _ => by simp at h
  | _ :: _, _ :: _, [], _, h, _ => by simp at h

theorem part_one {P : Program} {t : TypeId} {cs : Array Value} {o : Nat} {v : Value} (w : World) (ht : (∃ k, P.underlying t = some (.int k)) ∨ P.underlying t = some .bool) (hv : cs[o]? = some v) : (part t cs o).run P w = .ok v w := by
  unfold part isAgg
  rcases ht with ⟨k, ht⟩ | ht
  · simp [Sem.run_bind, run_underlying ht, hv]
  · simp [Sem.run_bind, run_underlying ht, hv]
theorem field_int {P : Program} {t : TypeId} {xs ys : Array Value} {o : Nat} {k : IntKind} {a b : Int} (w : World) (ht : P.underlying t = some (.int k)) (hx : xs[o]? = some (.int k a)) (hy : ys[o]? = some (.int k b)) :
    (part t xs o).run P w = .ok (.int k a) w ∧ (part t ys o).run P w = .ok (.int k b) w ∧ (Op.equalIn 9999 t (.int k a) (.int k b)).run P w = .ok (eqV (.int k a) (.int k b)) w :=
  ⟨part_one w (Or.inl ⟨k, ht⟩) hx, part_one w (Or.inl ⟨k, ht⟩) hy, run_equalIn_int w 9998 t k k a b ht⟩
theorem field_bool {P : Program} {t : TypeId} {xs ys : Array Value} {o : Nat} {a b : Bool} (w : World) (ht : P.underlying t = some .bool) (hx : xs[o]? = some (.bool a)) (hy : ys[o]? = some (.bool b)) :
    (part t xs o).run P w = .ok (.bool a) w ∧ (part t ys o).run P w = .ok (.bool b) w ∧ (Op.equalIn 9999 t (.bool a) (.bool b)).run P w = .ok (eqV (.bool a) (.bool b)) w :=
  ⟨part_one w (Or.inr ht) hx, part_one w (Or.inr ht) hy, run_equalIn_bool' w 9998 t a b ht⟩
theorem run_regEql (x y : Rg) (w : World) : (regEql x.cells.toArray y.cells.toArray).run Tryd.prog w = .ok (.bool (eqR x y)) w := by
  unfold regEql
  have hu : Tryd.prog.underlying 24 = some (.struct (Tryd.prog.fieldsOf 24)) := by unfold Program.fieldsOf; rw [Tryd.underlying24]
  have e : (Op.eqFields 9999 x.cells.toArray y.cells.toArray (Tryd.prog.fieldsOf 24).toList).run Tryd.prog w = .ok (eqL x.cells y.cells) w := by
    have hf0 : Tryd.prog.fieldsOf 24 = (match Tryd.prog.underlying 24 with | some (.struct fs) => fs | _ => #[]) := rfl
    rw [Tryd.underlying24] at hf0
    rw [hf0]
    refine run_eqFields w 9999 _ _ _ _ _ rfl rfl ?_
    intro j f u v hf hu hv
    match j, hf, hu, hv with
    | 0, hf, hu, hv
    | 1, hf, hu, hv
    | 2, hf, hu, hv
    | 3, hf, hu, hv
    | 4, hf, hu, hv
    | 5, hf, hu, hv
    | 6, hf, hu, hv
    | 7, hf, hu, hv
    | 8, hf, hu, hv
    | 9, hf, hu, hv
    | 10, hf, hu, hv
    | 11, hf, hu, hv
    | 12, hf, hu, hv
    | 13, hf, hu, hv
    | 14, hf, hu, hv
    | 15, hf, hu, hv
    | 16, hf, hu, hv
    | 17, hf, hu, hv
    | 18, hf, hu, hv
    | 19, hf, hu, hv
    | 20, hf, hu, hv
    | 21, hf, hu, hv
    | 22, hf, hu, hv
    | 23, hf, hu, hv
    | 24, hf, hu, hv
    | 25, hf, hu, hv
    | 26, hf, hu, hv
    | 27, hf, hu, hv
    | 28, hf, hu, hv
    | 29, hf, hu, hv =>
      injection hf with hf
      injection hu with hu
      injection hv with hv
      subst hf hu hv
      first
        | exact ⟨by decide, field_int w Tryd.underlying5 rfl rfl⟩
        | exact ⟨by decide, field_int w Tryd.underlying22 rfl rfl⟩
        | exact ⟨by decide, field_bool w Tryd.underlying4 rfl rfl⟩
  rw [run_eql_struct, run_equalIn_struct w 9999 24 _ _ hu (by kernel_rfl), e]
  rfl

theorem regs_guard : Tryd.prog.eqGuardType Tryd.prog.depth 24 = false := by kernel_rfl

end Go.Proofs.YteffjidbcdnbhaaDoor
