/- Blocks of many cells as functions; their zero value; rows that are told apart. No program is named here. -/
import Derived.Test.YthlaglhlmbkniaaKit
import Derived.Laws.CopyRow
import Derived.Deep.AppendLies
import Derived.Deep.MidRow
import Derived.BigQuiet
import Derived.RegionTactic
namespace Go.Proofs.Ythlaglhlmbkniaa
open Go.RowKit

def updN (f : Nat → Int) (i : Nat) (v : Int) : Nat → Int := fun j => if j = i then v else f j
theorem updN_same (f : Nat → Int) (i : Nat) (v : Int) : updN f i v i = v := if_pos rfl
theorem updN_other (f : Nat → Int) (i j : Nat) (v : Int) (h : j ≠ i) : updN f i v j = f j := if_neg h
/-! Cells. -/
def upd (C : Nat → Value) (j : Nat) (v : Value) : Nat → Value := fun i => if i = j then v else C i
theorem upd_same (C : Nat → Value) (j : Nat) (v : Value) : upd C j v j = v := if_pos rfl
/-- A block of n cells, those of C. -/
def Cells (w : World) (b : Nat) (ty : TypeId) (n : Nat) (C : Nat → Value) : Prop := ∃ A : Array Value, w.heap[b]? = some (.cells A ty (0, 0)) ∧ A.size = n ∧ ∀ j, j < n → A[j]? = some (C j)
theorem Cells.lt {w : World} {b : Nat} {ty : TypeId} {n : Nat} {C : Nat → Value} (h : Cells w b ty n C) : b < w.heap.size := by
  obtain ⟨A, h, _⟩ := h
  exact (Array.getElem?_eq_some_iff.1 h).1
theorem Cells.cell {w : World} {b : Nat} {ty : TypeId} {n : Nat} {C : Nat → Value} (h : Cells w b ty n C) (j : Nat) (hj : j < n) : w.cell? ⟨b, j, none⟩ = some (C j) := by
  obtain ⟨A, h1, h2, h3⟩ := h
  rw [cell_of_row w b j _ _ (0, 0) h1, h3 j hj]
theorem Cells.frozen {w : World} {b : Nat} {ty : TypeId} {n : Nat} {C : Nat → Value} (h : Cells w b ty n C) (j : Nat) : w.frozen? ⟨b, j, none⟩ = false := by
  obtain ⟨A, h1, _⟩ := h
  exact frozen_of_row w b j _ _ h1
theorem Cells.block {w w' : World} {b : Nat} {ty : TypeId} {n : Nat} {C : Nat → Value} (h : Cells w b ty n C) (hb : w'.heap[b]? = w.heap[b]?) : Cells w' b ty n C := by
  obtain ⟨A, h1, h2⟩ := h
  exact ⟨A, hb.trans h1, h2⟩
theorem Cells.below {w w' : World} {b : Nat} {ty : TypeId} {n : Nat} {C : Nat → Value} (h : Cells w b ty n C) (hb : Below w.heap.size w w') : Cells w' b ty n C := h.block (hb.block b h.lt)
theorem Cells.set {w : World} {b : Nat} {ty : TypeId} {n : Nat} {C : Nat → Value} (h : Cells w b ty n C) (j : Nat) (v : Value) : Cells (w.setCell ⟨b, j, none⟩ v) b ty n (upd C j v) := by
  obtain ⟨A, h1, h2, h3⟩ := h
  refine ⟨A.setIfInBounds j v, heap_setCell_same w b j _ _ _ h1, by simpa using h2, fun i hi => ?_⟩
  unfold upd
  by_cases e : j = i
  · subst e
    rw [Array.getElem?_setIfInBounds_self_of_lt (by omega), if_pos rfl]
  · rw [Array.getElem?_setIfInBounds_ne e, if_neg (fun x => e x.symm), h3 i hi]
theorem Cells.congr {w : World} {b : Nat} {ty : TypeId} {n : Nat} {C D : Nat → Value} (h : Cells w b ty n C) (e : ∀ j, j < n → C j = D j) : Cells w b ty n D := by
  obtain ⟨A, h1, h2, h3⟩ := h
  exact ⟨A, h1, h2, fun j hj => by rw [h3 j hj, e j hj]⟩
theorem Cells.new (w : World) (A : Array Value) (ty : TypeId) (n : Nat) (C : Nat → Value) (h2 : A.size = n) (h3 : ∀ j, j < n → A[j]? = some (C j)) : Cells (w.alloc (.cells A ty)) w.heap.size ty n C :=
  ⟨A, heap_alloc_new w _, h2, h3⟩
def isU8z : Value → Bool
  | .int .u8 n => n == 0
  | _ => false
def isBz : Value → Bool
  | .bool b => !b
  | _ => false
def isU64z : Value → Bool
  | .int .u64 n => n == 0
  | _ => false
def isI64z : Value → Bool
  | .int .i64 n => n == 0
  | _ => false
def isNil : Value → Bool
  | .slice none 0 0 => true
  | _ => false
def eatZ (c : Value → Bool) : Nat → List Value → Option (List Value)
  | 0, l => some l
  | _ + 1, [] => none
  | n + 1, v :: l => match c v with
    | true => eatZ c n l
    | false => none
theorem eatZ_spec (c : Value → Bool) : ∀ (n : Nat) (l r : List Value), eatZ c n l = some r → l.length = n + r.length ∧ r = l.drop n ∧ ∀ i, i < n → ∃ v, l[i]? = some v ∧ c v = true
  | 0, l, r, h => by
    simp only [eatZ, Option.some.injEq] at h
    subst h
    exact ⟨by simp, by simp, fun i hi => absurd hi (by omega)⟩
  | n + 1, [], r, h => by simp [eatZ] at h
  | n + 1, v :: l, r, h => by
    cases hc : c v with
    | false => simp [eatZ, hc] at h
    | true =>
      simp only [eatZ, hc] at h
      obtain ⟨h1, h2, h3⟩ := eatZ_spec c n l r h
      refine ⟨by simp only [List.length_cons]; omega, by simpa using h2, fun i hi => ?_⟩
      cases i with
      | zero => exact ⟨v, rfl, hc⟩
      | succ i => simpa using h3 i (by omega)
theorem of_u8z {v : Value} (h : isU8z v = true) : v = .int .u8 0 := by
  unfold isU8z at h
  split at h
  · rw [eq_of_beq h]
  · cases h
theorem of_bz {v : Value} (h : isBz v = true) : v = .bool false := by
  unfold isBz at h
  split at h
  · rename_i b; cases b
    · rfl
    · cases h
  · cases h
theorem of_u64z {v : Value} (h : isU64z v = true) : v = .int .u64 0 := by
  unfold isU64z at h
  split at h
  · rw [eq_of_beq h]
  · cases h
theorem of_i64z {v : Value} (h : isI64z v = true) : v = .int .i64 0 := by
  unfold isI64z at h
  split at h
  · rw [eq_of_beq h]
  · cases h
theorem of_nil {v : Value} (h : isNil v = true) : v = .slice none 0 0 := by
  unfold isNil at h
  split at h
  · rfl
  · cases h

def zeroL (o : Option TypeInfo) : Option (List Value) :=
  match o with
  | some i => match i.zero with
    | some (.agg A) => some A.toList
    | _ => none
  | none => none
def eatAll : List (Nat × (Value → Bool)) → List Value → Option (List Value)
  | [], l => some l
  | x :: r, l => match eatZ x.2 x.1 l with
    | some l' => eatAll r l'
    | none => none
def total : List (Nat × (Value → Bool)) → Nat
  | [] => 0
  | x :: r => x.1 + total r
def atZ : List (Nat × (Value → Bool)) → Nat → Value → Bool
  | [], _, _ => false
  | x :: r, i, v => if i < x.1 then x.2 v else atZ r (i - x.1) v
theorem eatAll_spec : ∀ (L : List (Nat × (Value → Bool))) (l : List Value), eatAll L l = some [] → l.length = total L ∧ ∀ i, i < total L → ∃ v, l[i]? = some v ∧ atZ L i v = true
  | [], l, h => by
    simp only [eatAll, Option.some.injEq] at h
    subst h
    exact ⟨rfl, fun i hi => absurd hi (by simp [total])⟩
  | x :: r, l, h => by
    unfold eatAll at h
    split at h
    · rename_i l' hl
      obtain ⟨h1, h2, h3⟩ := eatZ_spec _ _ _ _ hl
      obtain ⟨k1, k2⟩ := eatAll_spec r l' h
      refine ⟨by simp only [total]; omega, fun i hi => ?_⟩
      by_cases hx : i < x.1
      · obtain ⟨v, a1, a2⟩ := h3 i hx
        exact ⟨v, a1, by simp only [atZ, if_pos hx]; exact a2⟩
      · obtain ⟨v, a1, a2⟩ := k2 (i - x.1) (by simp only [total] at hi; omega)
        refine ⟨v, ?_, by simp only [atZ, if_neg hx]; exact a2⟩
        rw [h2, List.getElem?_drop] at a1
        rwa [show x.1 + (i - x.1) = i by omega] at a1
    · cases h
def isE : Option (List Value) → Bool
  | some [] => true
  | _ => false
theorem of_isE {o : Option (List Value)} (h : isE o = true) : o = some [] := by
  unfold isE at h
  split at h
  · rfl
  · cases h
def eatO (L : List (Nat × (Value → Bool))) (o : Option TypeInfo) : Bool :=
  match zeroL o with
  | some l => isE (eatAll L l)
  | none => false
theorem zero_of (o : Option TypeInfo) (L : List (Nat × (Value → Bool))) (h : eatO L o = true) : ∃ i A, o = some i ∧ i.zero = some (.agg A) ∧ A.size = total L ∧ ∀ j, j < total L → ∃ v, A[j]? = some v ∧ atZ L j v = true := by
  unfold eatO at h
  split at h
  · rename_i l hl
    unfold zeroL at hl
    split at hl
    · rename_i o' i
      split at hl
      · rename_i z A hz
        cases hl
        obtain ⟨h1, h2⟩ := eatAll_spec _ _ (of_isE h)
        exact ⟨i, A, rfl, hz, by simpa using h1, fun j hj => by simpa using h2 j hj⟩
      · cases hl
    · cases hl
  · cases h
/-- How a struct is built of which one field of one cell is given. -/
theorem built_one (P : Program) (t : TypeId) (fields : Array Field) (i : TypeInfo) (A : Array Value) (places : List (Nat × Nat)) (k off : Nat) (v : Value)
    (h1 : P.info? t = some i) (h2 : P.underlying t = some (.struct fields)) (h3 : i.zero = some (.agg A)) (h4 : fields.toList.mapM (fun f => (P.info? f.type).map fun i => (f.offset, i.size)) = some places)
    (h5 : places.toArray[k]? = some (off, 1)) (h6 : v.cells = #[v]) (h7 : off + 1 ≤ A.size) : P.built t [(k, v)] = some (A.setIfInBounds off v) := by
  unfold Program.built
  rw [h1, h2]
  simp only [h3, h4]
  have hz : (Value.agg A).cells = A := rfl
  unfold Instr.fill
  rw [h5]
  simp only [h6, hz]
  rw [if_neg (by simp; omega)]
  unfold Instr.fill
  simp
theorem own_ty {w : World} {base : Nat} {e ty : TypeId} {size : Nat} {v : Value} {n : Nat} {xs : List Value} {b m : Nat} {C : Nat → Value} (h : w.ownsRow base e size v n xs) (hc : Cells w b ty m C) (hne : e ≠ ty) : v.ownBlock ≠ some b := by
  rcases h.2 with ⟨rfl, _⟩ | ⟨g, cap, cur, rfl, _, hg, _⟩
  · simp [Value.ownBlock]
  · intro e'
    simp only [Value.ownBlock, Option.some.injEq] at e'
    subst e'
    obtain ⟨A, hA, _⟩ := hc
    rw [hA] at hg
    injection hg with hg
    injection hg with _ h2 _
    exact hne h2.symm
theorem own_own {w : World} {base base' : Nat} {e ty : TypeId} {size size' : Nat} {v u : Value} {n m : Nat} {xs ys : List Value} (h : w.ownsRow base e size v n xs) (k : w.ownsRow base' ty size' u m ys) (hne : e ≠ ty) : v.ownBlock = none ∨ v.ownBlock ≠ u.ownBlock := by
  rcases h.2 with ⟨rfl, _⟩ | ⟨g, cap, cur, rfl, _, hg, _⟩
  · exact Or.inl rfl
  · right
    rcases k.2 with ⟨rfl, _⟩ | ⟨g', cap', cur', rfl, _, hg', _⟩
    · simp [Value.ownBlock]
    · intro e'
      simp only [Value.ownBlock, Option.some.injEq] at e'
      subst e'
      rw [hg] at hg'
      injection hg' with hg'
      injection hg' with _ h2 _
      exact hne h2
theorem own_keep {w w' : World} {base : Nat} {e : TypeId} {size : Nat} {v : Value} {n : Nat} {xs : List Value} (h : w.ownsRow base e size v n xs) (hb : ∀ k, v.ownBlock = some k → w'.heap[k]? = w.heap[k]?) : w'.ownsRow base e size v n xs := by
  refine ⟨h.1, ?_⟩
  rcases h.2 with hn | ⟨g, cap, cur, rfl, hb', hgg, rest⟩
  · exact .inl hn
  · exact .inr ⟨g, cap, cur, rfl, hb', (hb g rfl).trans hgg, rest⟩

end Go.Proofs.Ythlaglhlmbkniaa
